/- Lemmas: ODraw3, SpecCopyOt, ODraws, SpecCopy, Labeled, Draw3, Grow, Draw3b, TxtLen, SpecJoin, SpecText, Draw4, VaIn, SzVa, ToVa, EqVa, SpecVa, SpecVaForm, NumLaws, ReadLaws, Nums. -/
import Derived.Test.YtlmbnefoobameaaGreatDoorLawFnOpticText_6
import Derived.Deep.DeepCutAuto
import Derived.Deep.DrawnRows
import Derived.Deep.RegionHeld3
import Derived.Deep.AppendLies
import Derived.Test.YtlmbnefoobameaaGreatDoorLawFnOpticText_3
import Derived.Test.YtlmbnefoobameaaGreatDoorLawFnOpticText_1
import Derived.Deep.RegionHeldLaw
import Derived.Test.YtlmbnefoobameaaGreatDoorLawFnOpticText_5
import Derived.Test.YtlmbnefoobameaaGreatDoorProg
import Derived.Deep.DeepMust
import Derived.Outline
import Derived.Lib.ItoaNum
import Derived.Lib.AtoiAll

section
namespace Go.Proofs.YtlmbnefoobameaaGreatDoor
set_option maxRecDepth 100000
open Go.RowKit
attribute [local go_sem ↓] Go.wp_at_zero Go.wp_at_succ

theorem anyB_four (d : Nat) (h : d ≤ 4) : anyB d ≤ 46 := by
  have : d = 0 ∨ d = 1 ∨ d = 2 ∨ d = 3 ∨ d = 4 := by omega
  rcases this with rfl | rfl | rfl | rfl | rfl <;> decide
theorem pickNs (p B : Nat) (W : World) (h : CurAt W B p) :
    Calls Tryz.prog 30 #[.pointer (some ⟨p, 0, none⟩), .slice (some ⟨W.heap.size, 0, none⟩) 5 5] (W.alloc (.cells #[.int .i64 0, .int .i64 1, .int .i64 1000, .int .i64 1001, .int .i64 (-1)] 3)) (DrawnOf (W.alloc (.cells #[.int .i64 0, .int .i64 1, .int .i64 1000, .int .i64 1001, .int .i64 (-1)] 3)) B p [0, 1, 1000, 1001, (-1)]) :=
  l1PickInt_any p B 5 (some ⟨W.heap.size, 0, none⟩) [0, 1, 1000, 1001, (-1)] _ (CurAt.allocO h _) (ints_newO W _ [0, 1, 1000, 1001, (-1)]) (fun q b off e => by cases e; have := h.lt; omega) (by decide) (by decide)
theorem pickNames (p B : Nat) (W : World) (h : CurAt W B p) :
    Calls Tryz.prog 31 #[.pointer (some ⟨p, 0, none⟩), .slice (some ⟨W.heap.size, 0, none⟩) 3 3] (W.alloc (.cells #[.string ⟨#[]⟩, .string ⟨#[97]⟩, .string ⟨#[90]⟩] 9)) (DrawnStr (W.alloc (.cells #[.string ⟨#[]⟩, .string ⟨#[97]⟩, .string ⟨#[90]⟩] 9)) B p [⟨#[]⟩, ⟨#[97]⟩, ⟨#[90]⟩]) :=
  l1Pick_any p B (W.heap.size + 1) 3 (some ⟨W.heap.size, 0, none⟩) [⟨#[]⟩, ⟨#[97]⟩, ⟨#[90]⟩] _ (CurAt.allocO h _) (StrsAt.of_whole (t := 9) (Whole1.new W _ _) _ (by omega)) (fun q b off e => by cases e; have := h.lt; omega) (by decide) (by decide)
theorem OtIn.leaf (w : World) (S : Nat → Prop) (k n : Int) (nm : ByteArray) (hnm : nm.size ≤ maxLen) : OtIn w S (.agg #[.int .i64 k, .string nm, .int .i64 n, .slice none 0 0]) (.mk k n nm []) :=
  (OwnOt.leaf w w.heap.size k n nm hnm).owned.wide fun b hb => absurd hb.2 (by have := hb.1; omega)
/-- One more tree is appended. -/
theorem OGatherAt.stepAt {w w1 w3 : World} {base k g cap : Nat} {v a b c d : Value} {ts : List Ot} {xs : List Value} {vs : Nat → Value} {lo hi : Nat → Nat} (h : OGatherAt w base v k ts xs vs lo hi) (hb : Below w.heap.size w w1) (hbase : base ≤ w.heap.size) (hk : k < ts.length)
    (ht : OtIn w1 (Span w.heap.size w1.heap.size) (.agg #[a, b, c, d]) ts[k]) (hown : w3.ownsRow base 26 4 (.slice (some ⟨g, 0, none⟩) (k + 1) cap) (k + 1) (xs ++ [a, b, c, d]))
    (hg : (w1.alloc (.cells #[a, b, c, d] 26)).grownBy w3 v.ownBlock) (hat : v.ownBlock = some g ∨ g = w1.heap.size + 1) : OGatherAt w3 base (.slice (some ⟨g, 0, none⟩) (k + 1) cap) (k + 1) ts (xs ++ [a, b, c, d]) (fun i => if i = k then .agg #[a, b, c, d] else vs i) (fun i => if i = k then w.heap.size else lo i) (fun i => if i = k then w1.heap.size else hi i) := by
  have hs1 := hb.size
  have hs3 : w1.heap.size + 1 ≤ w3.heap.size := by have := hg.size; simp at this; exact this
  have hxl : xs.length = k * 4 := h.own.1
  have hkeep : ∀ q, q < w1.heap.size → v.ownBlock ≠ some q → w3.heap[q]? = w1.heap[q]? := fun q hq hne =>
    (hg.block q (by simp; omega) (fun e => hne e.symm)).trans (Below.heap_alloc _ _ _ hq)
  refine ⟨hown, fun i hi' j hj => ?_, fun i hi' => ?_, fun i j hij hj => ?_, fun i hi' q hq => ?_, fun i hi' hik => ?_⟩
  · by_cases ek : i = k
    · subst ek
      rw [if_pos rfl, List.getElem?_append_right (by omega), hxl]
      have : j = 0 ∨ j = 1 ∨ j = 2 ∨ j = 3 := by omega
      rcases this with rfl | rfl | rfl | rfl
      · simp [partAt]
      · simp [partAt]
      · simp [partAt]
      · simp [partAt]
    · rw [if_neg ek, List.getElem?_append_left (by omega)]
      exact h.cells i (by omega) j hj
  · by_cases ek : i = k
    · rw [if_pos ek, if_pos ek]
      omega
    · rw [if_neg ek, if_neg ek]
      have := h.low i (by omega)
      omega
  · rw [if_neg (show i ≠ k by omega)]
    by_cases ek : j = k
    · rw [if_pos ek]
      exact (h.low i (by omega)).2
    · rw [if_neg ek]
      exact h.apart i j hij (by omega)
  · have hqg : q = g := (Option.some.inj hq).symm
    subst hqg
    by_cases ek : i = k
    · rw [if_pos ek, if_pos ek]
      intro hs
      have a1 := hs.1
      have a2 := hs.2
      rcases hat with hat | hat
      · have := (h.own.lt q hat).2
        omega
      · omega
    · rw [if_neg ek, if_neg ek]
      rcases hat with hat | hat
      · exact h.free i (by omega) q hat
      · intro hs
        have := hs.2
        have := (h.low i (by omega)).2
        omega
  · by_cases ek : i = k
    · subst ek
      rw [if_pos rfl, if_pos rfl, if_pos rfl]
      refine ht.keep fun q hq _ => hkeep q hq.2 fun hv => ?_
      have := (h.own.lt q hv).2
      have := hq.1
      omega
    · rw [if_neg ek, if_neg ek, if_neg ek]
      refine (h.kids i hi' (by omega)).keep fun q hq hql => ?_
      rw [hkeep q (by omega) fun hv => h.free i (by omega) q hv hq]
      exact hb.block q hql

/-- A part is appended. -/
theorem OwnOAt.arg {w w1 w3 : World} {base ac g cap : Nat} {A : Option Addr} {t : Ot} {xs : List Value} {vs : Nat → Value} {lo hi : Nat → Nat} {a b c d : Value} (h : OwnOAt w base A ac t xs vs lo hi) (u : Ot) (hb : Below w.heap.size w w1) (hbase : base ≤ w.heap.size) (hm : t.args.length + 1 ≤ maxLen)
    (hu : OtIn w1 (Span w.heap.size w1.heap.size) (.agg #[a, b, c, d]) u) (hown : w3.ownsRow base 26 4 (.slice (some ⟨g, 0, none⟩) (t.args.length + 1) cap) (t.args.length + 1) (xs ++ [a, b, c, d]))
    (hg : (w1.alloc (.cells #[a, b, c, d] 26)).grownBy w3 (Value.slice A t.args.length ac).ownBlock) (hat : (Value.slice A t.args.length ac).ownBlock = some g ∨ g = w1.heap.size + 1) :
    OwnOAt w3 base (some ⟨g, 0, none⟩) cap (.mk t.kind t.num t.name (t.args ++ [u])) (xs ++ [a, b, c, d]) (fun i => if i = t.args.length then .agg #[a, b, c, d] else vs i) (fun i => if i = t.args.length then w.heap.size else lo i) (fun i => if i = t.args.length then w1.heap.size else hi i) := by
  have hp : OGatherAt w base (.slice A t.args.length ac) t.args.length (t.args ++ [u]) xs vs lo hi :=
    ⟨h.parts.own, h.parts.cells, h.parts.low, h.parts.apart, h.parts.free, fun i hi' hik => by rw [List.getElem_append_left hik]; exact h.parts.kids i hik hik⟩
  have hst := hp.stepAt hb hbase (by simp) (by simpa using hu) hown hg hat
  have e1 : (t.args ++ [u]).length = t.args.length + 1 := by simp
  refine ⟨h.name, by show (t.args ++ [u]).length ≤ maxLen; rw [e1]; exact hm, ?_⟩
  show OGatherAt w3 base (.slice _ (t.args ++ [u]).length cap) (t.args ++ [u]).length (t.args ++ [u]) _ _ _ _
  rw [e1]
  exact hst
theorem szOt_arg (t u : Ot) : szOt (.mk t.kind t.num t.name (t.args ++ [u])) = szOt t + 1 + szOt u := by
  cases t
  simp [szOt, Ot.args, Ot.name, szOts_append, szOts]
  omega

set_option maxHeartbeats 8000000 in
theorem specBentO_any (p B : Nat) (w : World) (hc : CurAt w B p) : Calls Tryz.prog 13 #[.pointer (some ⟨p, 0, none⟩)] w (DrawnOt w B p 60) := by
  have hpl := hc.lt
  obtain ⟨hb0, r0, hs0⟩ := boxes1 w 26 #[.int .i64 0, .string ⟨#[]⟩, .int .i64 0, .slice none 0 0]
  have hc0 : CurAt (w.alloc (.cells #[.int .i64 0, .string ⟨#[]⟩, .int .i64 0, .slice none 0 0] 26)) B p := hc.allocO _
  have hg0 : w.grownBy (w.alloc (.cells #[.int .i64 0, .string ⟨#[]⟩, .int .i64 0, .slice none 0 0] 26)) (some p) := World.grownBy_alloc w _ _
  have H4 := Lib.hid (fun W h => l1Below_any p B 4 W h (by omega) (by omega))
  have H12 := Lib.hid (fun W h => l1Below_any p B 12 W h (by omega) (by omega))
  have H15 := Lib.hid (fun W h => l1Below_any p B 15 W h (by omega) (by omega))
  have HAN : Hid (∀ (D : Int) (W : World), 1 ≤ D → D ≤ 4 → CurAt W B p → Calls Tryz.prog 28 #[.pointer (some ⟨p, 0, none⟩), .int .i64 D] W (DrawnOt W B p 46)) := Lib.hid (fun D W h1 h4 h => (specAnyO_any D.toNat D p B W (by omega) (by omega) h).mono (by rintro e w' ⟨⟨v, t, h1', h2', h3'⟩, h4', h5'⟩; exact ⟨⟨v, t, h1', h2', Nat.le_trans h3' (anyB_four _ (by omega))⟩, h4', h5'⟩))
  clear hc hb0
  go_enter Tryz.func13, Tryz.ntmps13
  go_wp2_with fail
  refine (H4.out _ hc0).mono ?_
  rintro e wt ⟨⟨y, rfl, hy0, hy1⟩, hct, hgt⟩
  have HV := Lib.hid (HAN.out (1 + y) _ (by omega) (by omega) hct)
  have rt := r0.grownO hgt (by omega)
  have hgt' := only_trans hg0 hgt
  have hst := hgt.size
  rw [hs0] at hst
  clear r0 hg0 hgt hc0 hs0 hct HAN
  go_wp2_with fail
  refine HV.out.mono ?_
  rintro e w1 ⟨⟨v, t, rfl, hO, hz⟩, hc1, hg1⟩
  obtain ⟨A, ac, xs, vs, lo, hi, rfl, hA1⟩ := hO.base (base0 := w.heap.size + 1) (by omega)
  have r1 := rt.grownO hg1 (by omega)
  have hg1' := only_trans hgt' hg1
  have hs1 := hg1.size
  clear hO rt hgt' hg1 HV hy0 hy1
  go_wp2_with fail
  obtain ⟨hbW, rb, hsW⟩ := boxes1 w1 26 #[.int .i64 t.kind, .string t.name, .int .i64 t.num, .slice A t.args.length ac]
  have hcW := hc1.belowO hbW hc1.lt
  have hOW := hA1.keep (w' := w1.alloc (.cells #[.int .i64 t.kind, .string t.name, .int .i64 t.num, .slice A t.args.length ac] 26)) hbW.size (fun g _ hl => hbW.block g hl)
  have rW := r1.below hbW r1.lt
  have hgW := only_below hg1' hbW
  have N2 : (Value.slice A t.args.length ac).ownBlock ≠ some w1.heap.size := fun e => by have := (hA1.parts.own.lt _ e).2; omega
  have N3 : ∀ i, i < t.args.length → ¬ Span (lo i) (hi i) w1.heap.size := fun i hi' hb => by have := (hA1.parts.low i hi').2; have := hb.2; omega
  clear hbW hc1 hA1 r1 hg1'
  generalize hz1 : w1.heap.size = z at *
  generalize w1.alloc (.cells #[.int .i64 t.kind, .string t.name, .int .i64 t.num, .slice A t.args.length ac] 26) = W at *
  refine (H12.out _ hcW).mono ?_
  rintro e w2 ⟨⟨x, rfl, hx0, hx1⟩, hc2, hg2⟩
  have hs2 := hg2.size
  have hA2 := hOW.grown hg2 (by omega)
  have b2 := rb.grownO hg2 (by omega)
  have r2 := rW.grownO hg2 (by omega)
  have hg2' := only_trans hgW hg2
  clear hcW rb hOW rW hgW hg2
  have hzr : z ≠ w.heap.size := by omega
  have hrz : w.heap.size ≠ z := by omega
  have hzl := b2.lt
  by_cases h0 : x = 0
  · subst h0
    go_wp2_with fail
    refine (H15.out _ hc2).mono ?_
    rintro e w3 ⟨⟨y, rfl, hy0, hy1⟩, hc3, hg3⟩
    have hs3 := hg3.size
    have hA3 := hA2.grown hg3 (by omega)
    have b3 := b2.grownO hg3 (by omega)
    have r3 := r2.grownO hg3 (by omega)
    have hg3' := only_trans hg2' hg3
    clear hA2 b2 r2 hg2' hg3 hc2
    have d0 : w3.cell? ⟨w.heap.size, 0, none⟩ = some (.int .i64 0) := r3.cell 0
    have f0 : w3.frozen? ⟨w.heap.size, 0, none⟩ = false := r3.free 0
    have d1 : w3.cell? ⟨w.heap.size, 1, none⟩ = some (.string ⟨#[]⟩) := r3.cell 1
    have f1 : w3.frozen? ⟨w.heap.size, 1, none⟩ = false := r3.free 1
    have d2 : w3.cell? ⟨w.heap.size, 2, none⟩ = some (.int .i64 0) := r3.cell 2
    have f2 : w3.frozen? ⟨w.heap.size, 2, none⟩ = false := r3.free 2
    have d3 : w3.cell? ⟨w.heap.size, 3, none⟩ = some (.slice none 0 0) := r3.cell 3
    have f3 : w3.frozen? ⟨w.heap.size, 3, none⟩ = false := r3.free 3
    have q0 : w3.cell? ⟨z, 0, none⟩ = some (.int .i64 t.kind) := b3.cell 0
    have u0 : w3.frozen? ⟨z, 0, none⟩ = false := b3.free 0
    have q1 : w3.cell? ⟨z, 1, none⟩ = some (.string t.name) := b3.cell 1
    have u1 : w3.frozen? ⟨z, 1, none⟩ = false := b3.free 1
    have q2 : w3.cell? ⟨z, 2, none⟩ = some (.int .i64 t.num) := b3.cell 2
    have u2 : w3.frozen? ⟨z, 2, none⟩ = false := b3.free 2
    have q3 : w3.cell? ⟨z, 3, none⟩ = some (.slice A t.args.length ac) := b3.cell 3
    have u3 : w3.frozen? ⟨z, 3, none⟩ = false := b3.free 3
    have hA4 := (hA3.root y t.num t.name hA3.name).but (w' := w3.setCell ⟨z, 0, none⟩ (.int .i64 y)) z (by simp [World.setCell]) (fun g _ _ hne => Below.heap_setCell _ _ _ _ hne) N2 N3
    have HF := Lib.hid (drawnO_fin0 (n := 60) hA4.own (by have := szOt_root t y t.num t.name; omega) (hc3.belowO ((Below.refl z w3).setCell (by simp) _) (by omega)) hpl (grown_setO hg3' (by omega) _ _))
    clear r3 b3 hA3 hA4
    go_wp2
    exact bodyPost_ret (v := .agg #[.int .i64 y, .string t.name, .int .i64 t.num, .slice A t.args.length ac]) (by simp [results, Tryz.results13, go_sem, d0, d1, d2, d3]) rfl (HF.out _ _ _ _)
  by_cases h1 : x = 1
  · subst h1
    have HPK := Lib.hid (pickNs p B w2 hc2)
    go_wp2_with fail
    refine HPK.out.mono ?_
    rintro e w3 ⟨⟨y, rfl, hy⟩, hc3, hg3a⟩
    have hg3 := only_trans (World.grownBy_alloc w2 _ _) hg3a
    clear hg3a hy
    have hs3 := hg3.size
    have hA3 := hA2.grown hg3 (by omega)
    have b3 := b2.grownO hg3 (by omega)
    have r3 := r2.grownO hg3 (by omega)
    have hg3' := only_trans hg2' hg3
    clear hA2 b2 r2 hg2' hg3 hc2
    have d0 : w3.cell? ⟨w.heap.size, 0, none⟩ = some (.int .i64 0) := r3.cell 0
    have f0 : w3.frozen? ⟨w.heap.size, 0, none⟩ = false := r3.free 0
    have d1 : w3.cell? ⟨w.heap.size, 1, none⟩ = some (.string ⟨#[]⟩) := r3.cell 1
    have f1 : w3.frozen? ⟨w.heap.size, 1, none⟩ = false := r3.free 1
    have d2 : w3.cell? ⟨w.heap.size, 2, none⟩ = some (.int .i64 0) := r3.cell 2
    have f2 : w3.frozen? ⟨w.heap.size, 2, none⟩ = false := r3.free 2
    have d3 : w3.cell? ⟨w.heap.size, 3, none⟩ = some (.slice none 0 0) := r3.cell 3
    have f3 : w3.frozen? ⟨w.heap.size, 3, none⟩ = false := r3.free 3
    have q0 : w3.cell? ⟨z, 0, none⟩ = some (.int .i64 t.kind) := b3.cell 0
    have u0 : w3.frozen? ⟨z, 0, none⟩ = false := b3.free 0
    have q1 : w3.cell? ⟨z, 1, none⟩ = some (.string t.name) := b3.cell 1
    have u1 : w3.frozen? ⟨z, 1, none⟩ = false := b3.free 1
    have q2 : w3.cell? ⟨z, 2, none⟩ = some (.int .i64 t.num) := b3.cell 2
    have u2 : w3.frozen? ⟨z, 2, none⟩ = false := b3.free 2
    have q3 : w3.cell? ⟨z, 3, none⟩ = some (.slice A t.args.length ac) := b3.cell 3
    have u3 : w3.frozen? ⟨z, 3, none⟩ = false := b3.free 3
    have hA4 := (hA3.root t.kind y t.name hA3.name).but (w' := w3.setCell ⟨z, 2, none⟩ (.int .i64 y)) z (by simp [World.setCell]) (fun g _ _ hne => Below.heap_setCell _ _ _ _ hne) N2 N3
    have HF := Lib.hid (drawnO_fin0 (n := 60) hA4.own (by have := szOt_root t t.kind y t.name; omega) (hc3.belowO ((Below.refl z w3).setCell (by simp) _) (by omega)) hpl (grown_setO hg3' (by omega) _ _))
    clear r3 b3 hA3 hA4
    go_wp2
    exact bodyPost_ret (v := .agg #[.int .i64 t.kind, .string t.name, .int .i64 y, .slice A t.args.length ac]) (by simp [results, Tryz.results13, go_sem, d0, d1, d2, d3]) rfl (HF.out _ _ _ _)
  by_cases h2 : x = 2
  · subst h2
    have HPK := Lib.hid (pickNames p B w2 hc2)
    go_wp2_with fail
    refine HPK.out.mono ?_
    rintro e w3 ⟨⟨s, rfl, hs⟩, hc3, hg3a⟩
    have hg3 := only_trans (World.grownBy_alloc w2 _ _) hg3a
    clear hg3a
    have hss : s.size ≤ 1 := by
      simp at hs
      rcases hs with rfl | rfl | rfl <;> decide
    clear hs
    have hs3 := hg3.size
    have hA3 := hA2.grown hg3 (by omega)
    have b3 := b2.grownO hg3 (by omega)
    have r3 := r2.grownO hg3 (by omega)
    have hg3' := only_trans hg2' hg3
    clear hA2 b2 r2 hg2' hg3 hc2
    have d0 : w3.cell? ⟨w.heap.size, 0, none⟩ = some (.int .i64 0) := r3.cell 0
    have f0 : w3.frozen? ⟨w.heap.size, 0, none⟩ = false := r3.free 0
    have d1 : w3.cell? ⟨w.heap.size, 1, none⟩ = some (.string ⟨#[]⟩) := r3.cell 1
    have f1 : w3.frozen? ⟨w.heap.size, 1, none⟩ = false := r3.free 1
    have d2 : w3.cell? ⟨w.heap.size, 2, none⟩ = some (.int .i64 0) := r3.cell 2
    have f2 : w3.frozen? ⟨w.heap.size, 2, none⟩ = false := r3.free 2
    have d3 : w3.cell? ⟨w.heap.size, 3, none⟩ = some (.slice none 0 0) := r3.cell 3
    have f3 : w3.frozen? ⟨w.heap.size, 3, none⟩ = false := r3.free 3
    have q0 : w3.cell? ⟨z, 0, none⟩ = some (.int .i64 t.kind) := b3.cell 0
    have u0 : w3.frozen? ⟨z, 0, none⟩ = false := b3.free 0
    have q1 : w3.cell? ⟨z, 1, none⟩ = some (.string t.name) := b3.cell 1
    have u1 : w3.frozen? ⟨z, 1, none⟩ = false := b3.free 1
    have q2 : w3.cell? ⟨z, 2, none⟩ = some (.int .i64 t.num) := b3.cell 2
    have u2 : w3.frozen? ⟨z, 2, none⟩ = false := b3.free 2
    have q3 : w3.cell? ⟨z, 3, none⟩ = some (.slice A t.args.length ac) := b3.cell 3
    have u3 : w3.frozen? ⟨z, 3, none⟩ = false := b3.free 3
    have hA4 := (hA3.root t.kind t.num s (Nat.le_trans hss (by unfold maxLen; decide))).but (w' := w3.setCell ⟨z, 1, none⟩ (.string s)) z (by simp [World.setCell]) (fun g _ _ hne => Below.heap_setCell _ _ _ _ hne) N2 N3
    have HF := Lib.hid (drawnO_fin0 (n := 60) hA4.own (by have := szOt_root t t.kind t.num s; omega) (hc3.belowO ((Below.refl z w3).setCell (by simp) _) (by omega)) hpl (grown_setO hg3' (by omega) _ _))
    clear r3 b3 hA3 hA4
    go_wp2
    exact bodyPost_ret (v := .agg #[.int .i64 t.kind, .string s, .int .i64 t.num, .slice A t.args.length ac]) (by simp [results, Tryz.results13, go_sem, d0, d1, d2, d3]) rfl (HF.out _ _ _ _)
  by_cases h3 : x = 3
  · subst h3
    obtain ⟨i1, hi1, hy0, hy1, hy2⟩ := info_parts infoOptic
    have hla : t.args.length ≤ 46 := by
      have := szOt_eq t
      have := szOts_len t.args
      omega
    have d0 : w2.cell? ⟨w.heap.size, 0, none⟩ = some (.int .i64 0) := r2.cell 0
    have f0 : w2.frozen? ⟨w.heap.size, 0, none⟩ = false := r2.free 0
    have d1 : w2.cell? ⟨w.heap.size, 1, none⟩ = some (.string ⟨#[]⟩) := r2.cell 1
    have f1 : w2.frozen? ⟨w.heap.size, 1, none⟩ = false := r2.free 1
    have d2 : w2.cell? ⟨w.heap.size, 2, none⟩ = some (.int .i64 0) := r2.cell 2
    have f2 : w2.frozen? ⟨w.heap.size, 2, none⟩ = false := r2.free 2
    have d3 : w2.cell? ⟨w.heap.size, 3, none⟩ = some (.slice none 0 0) := r2.cell 3
    have f3 : w2.frozen? ⟨w.heap.size, 3, none⟩ = false := r2.free 3
    have q0 : w2.cell? ⟨z, 0, none⟩ = some (.int .i64 t.kind) := b2.cell 0
    have u0 : w2.frozen? ⟨z, 0, none⟩ = false := b2.free 0
    have q1 : w2.cell? ⟨z, 1, none⟩ = some (.string t.name) := b2.cell 1
    have u1 : w2.frozen? ⟨z, 1, none⟩ = false := b2.free 1
    have q2 : w2.cell? ⟨z, 2, none⟩ = some (.int .i64 t.num) := b2.cell 2
    have u2 : w2.frozen? ⟨z, 2, none⟩ = false := b2.free 2
    have q3 : w2.cell? ⟨z, 3, none⟩ = some (.slice A t.args.length ac) := b2.cell 3
    have u3 : w2.frozen? ⟨z, 3, none⟩ = false := b2.free 3
    have hN := newsO w2 26 (.int .i64 1) (.string ⟨#[]⟩) (.int .i64 0) (.slice none 0 0)
    have HA2 := Lib.hid hA2
    have HA5 := Lib.hid (World.ownsRow.alloc hA2.parts.own (.cells #[.int .i64 1, .string ⟨#[]⟩, .int .i64 0, .slice none 0 0] 26))
    have HU := Lib.hid (OtIn.leaf w2 (Span w2.heap.size w2.heap.size) 1 0 ⟨#[]⟩ (Nat.zero_le _))
    have HG2 := Lib.hid hg2'
    have HR2 := Lib.hid r2
    have HB2 := Lib.hid b2
    have HC2 := Lib.hid hc2
    clear hA2 hc2 hg2' r2 b2
    go_wp2_with (at_builtin; refine wpList_append_lies _ rfl (.tmp 31) (.tmp 33) _ rfl (w.heap.size + 1) 26 i1 (.agg #[.int .i64 0, .string ⟨#[]⟩, .int .i64 0, .slice none 0 0]) 4 56 Tryz.underlying24 hi1 hy0 hy1 hy2 rfl (by decide) _ t.args.length xs rfl HA5.out ⟨w2.heap.size, 0, none⟩ 1 1 [.int .i64 1, .string ⟨#[]⟩, .int .i64 0, .slice none 0 0] rfl rfl hN.1 hN.2 (by omega) (by unfold maxLen; omega) (by omega) (by simp; omega) (w2.heap.size + 1) (by simp) ?_; intro g cap w3 hown3 hg3 hat3 hlt3; have HAG := HA2.out.arg (w1 := w2) (.mk 1 0 ⟨#[]⟩ []) (Below.refl _ _) (by omega) (by unfold maxLen; omega) HU.out hown3 hg3 (hat3.imp id (fun e => by omega)); have hlo := (fun q (hq : (Value.slice A t.args.length ac).ownBlock = some q) => (HA2.out.parts.own.lt q hq)); have hB5 : Below (w.heap.size + 1) w2 w3 := ((Below.refl (w.heap.size + 1) w2).alloc (by omega) _).grown hg3 (by simp; omega) (fun q hq => (hlo q hq).1); have b5 : Whole1 w3 z 26 #[.int .i64 t.kind, .string t.name, .int .i64 t.num, .slice A t.args.length ac] := ((hg3.block z (by simp; omega) (fun e => N2 e.symm)).trans (Below.heap_alloc _ _ _ hzl)).trans HB2.out; have r5 : Whole1 w3 w.heap.size 26 #[.int .i64 0, .string ⟨#[]⟩, .int .i64 0, .slice none 0 0] := HR2.out.below hB5 (by omega); have D0 : w3.cell? ⟨w.heap.size, 0, none⟩ = some (.int .i64 0) := r5.cell 0; have F0 : w3.frozen? ⟨w.heap.size, 0, none⟩ = false := r5.free 0; have D1 : w3.cell? ⟨w.heap.size, 1, none⟩ = some (.string ⟨#[]⟩) := r5.cell 1; have F1 : w3.frozen? ⟨w.heap.size, 1, none⟩ = false := r5.free 1; have D2 : w3.cell? ⟨w.heap.size, 2, none⟩ = some (.int .i64 0) := r5.cell 2; have F2 : w3.frozen? ⟨w.heap.size, 2, none⟩ = false := r5.free 2; have D3 : w3.cell? ⟨w.heap.size, 3, none⟩ = some (.slice none 0 0) := r5.cell 3; have F3 : w3.frozen? ⟨w.heap.size, 3, none⟩ = false := r5.free 3; have Q0 : w3.cell? ⟨z, 0, none⟩ = some (.int .i64 t.kind) := b5.cell 0; have U0 : w3.frozen? ⟨z, 0, none⟩ = false := b5.free 0; have Q1 : w3.cell? ⟨z, 1, none⟩ = some (.string t.name) := b5.cell 1; have U1 : w3.frozen? ⟨z, 1, none⟩ = false := b5.free 1; have Q2 : w3.cell? ⟨z, 2, none⟩ = some (.int .i64 t.num) := b5.cell 2; have U2 : w3.frozen? ⟨z, 2, none⟩ = false := b5.free 2; have Q3 : w3.cell? ⟨z, 3, none⟩ = some (.slice A t.args.length ac) := b5.cell 3; have U3 : w3.frozen? ⟨z, 3, none⟩ = false := b5.free 3; have hgz : g ≠ z := (fun e => by rcases hat3 with h | h; exact N2 (Eq.trans (show (Value.slice A t.args.length ac).ownBlock = some g from h) (congrArg some e)); omega); have hA4 := HAG.but (w' := w3.setCell ⟨z, 3, none⟩ (.slice (some ⟨g, 0, none⟩) (t.args.length + 1) cap)) z (by simp [World.setCell]) (fun g _ _ hne => Below.heap_setCell _ _ _ _ hne) (fun e => hgz (Option.some.inj e)) (fun i hi' hsp => by have h1 : i < (t.args ++ [Ot.mk 1 0 ⟨#[]⟩ []]).length := hi'; rw [List.length_append, List.length_singleton] at h1; by_cases e : i = t.args.length; (simp only [e, if_true] at hsp; have := hsp.1; omega); (simp only [e, if_false] at hsp; exact N3 i (by omega) hsp)); have HF := Lib.hid (drawnO_fin0 (n := 60) hA4.own (by rw [szOt_arg]; simp only [szOt, szOts]; have h0 : (⟨#[]⟩ : ByteArray).size = 0 := rfl; omega) (HC2.out.belowO (hB5.setCell (p := ⟨z, 3, none⟩) (by show w.heap.size + 1 ≤ z; omega) _) (by omega)) hpl (grown_setO (grown_ownO (grown_allocO HG2.out _) hg3 (fun q hq => by have := (hlo q hq).1; omega)) (by omega) _ _)); clear HAG hA4 r5 b5)
    go_wp2
    exact bodyPost_ret (v := .agg #[.int .i64 t.kind, .string t.name, .int .i64 t.num, .slice (some ⟨g, 0, none⟩) (t.args ++ [Ot.mk 1 0 ⟨#[]⟩ []]).length cap]) (by simp [results, Tryz.results13, go_sem, D0, D1, D2, D3]) rfl (HF.out _ _ _ _)
  have d0 : w2.cell? ⟨w.heap.size, 0, none⟩ = some (.int .i64 0) := r2.cell 0
  have f0 : w2.frozen? ⟨w.heap.size, 0, none⟩ = false := r2.free 0
  have d1 : w2.cell? ⟨w.heap.size, 1, none⟩ = some (.string ⟨#[]⟩) := r2.cell 1
  have f1 : w2.frozen? ⟨w.heap.size, 1, none⟩ = false := r2.free 1
  have d2 : w2.cell? ⟨w.heap.size, 2, none⟩ = some (.int .i64 0) := r2.cell 2
  have f2 : w2.frozen? ⟨w.heap.size, 2, none⟩ = false := r2.free 2
  have d3 : w2.cell? ⟨w.heap.size, 3, none⟩ = some (.slice none 0 0) := r2.cell 3
  have f3 : w2.frozen? ⟨w.heap.size, 3, none⟩ = false := r2.free 3
  have q0 : w2.cell? ⟨z, 0, none⟩ = some (.int .i64 t.kind) := b2.cell 0
  have u0 : w2.frozen? ⟨z, 0, none⟩ = false := b2.free 0
  have q1 : w2.cell? ⟨z, 1, none⟩ = some (.string t.name) := b2.cell 1
  have u1 : w2.frozen? ⟨z, 1, none⟩ = false := b2.free 1
  have q2 : w2.cell? ⟨z, 2, none⟩ = some (.int .i64 t.num) := b2.cell 2
  have u2 : w2.frozen? ⟨z, 2, none⟩ = false := b2.free 2
  have q3 : w2.cell? ⟨z, 3, none⟩ = some (.slice A t.args.length ac) := b2.cell 3
  have u3 : w2.frozen? ⟨z, 3, none⟩ = false := b2.free 3
  have HF := Lib.hid (drawnO_fin0 (n := 60) hA2.own (by omega) hc2 hpl hg2')
  clear hA2 b2 r2
  go_wp2
  exact bodyPost_ret (v := .agg #[.int .i64 t.kind, .string t.name, .int .i64 t.num, .slice A t.args.length ac]) (by simp [results, Tryz.results13, go_sem, d0, d1, d2, d3]) rfl (HF.out _ _ _ _)

end Go.Proofs.YtlmbnefoobameaaGreatDoor
end

section
namespace Go.Proofs.YtlmbnefoobameaaGreatDoor
set_option maxRecDepth 100000
open Go.RowKit
attribute [local go_sem ↓] Go.wp_at_zero Go.wp_at_succ

theorem ocopy_rel {w wc wr w1 w3 : World} {po k g cap c2 : Nat} {A2 : Option Addr} {k0 n0 : Int} {nm : ByteArray} {ts : List Ot} {xs : List Value} {vs : Nat → Value} {lo hi : Nat → Nat} {a b c d : Value} (hk : k < ts.length) (hol : po < wc.heap.size) (hpo : w.heap.size ≤ po) (hsz : wc.heap.size ≤ wr.heap.size)
    (hG : OGatherAt wr wc.heap.size (.slice A2 k c2) k ts xs vs lo hi) (hb1 : Below wr.heap.size wr w1) (ht : OtIn w1 (Span wr.heap.size w1.heap.size) (.agg #[a, b, c, d]) ts[k])
    (hown3 : w3.ownsRow wc.heap.size 26 4 (.slice (some ⟨g, 0, none⟩) (k + 1) cap) (k + 1) (xs ++ [a, b, c, d])) (hg3 : (w1.alloc (.cells #[a, b, c, d] 26)).grownBy w3 (Value.slice A2 k c2).ownBlock) (hat3 : (Value.slice A2 k c2).ownBlock = some g ∨ g = w1.heap.size + 1)
    (ho3 : Whole1 w3 po 26 #[.int .i64 k0, .string nm, .int .i64 n0, .slice A2 k c2]) (hold : ∀ q, q < wc.heap.size → q ≠ po → wr.heap[q]? = wc.heap[q]?) (hb : Below w.heap.size w wr) :
    Whole1 (w3.setCell ⟨po, 3, none⟩ (.slice (some ⟨g, 0, none⟩) (k + 1) cap)) po 26 #[.int .i64 k0, .string nm, .int .i64 n0, .slice (some ⟨g, 0, none⟩) (k + 1) cap] ∧ OGather (w3.setCell ⟨po, 3, none⟩ (.slice (some ⟨g, 0, none⟩) (k + 1) cap)) wc.heap.size (.slice (some ⟨g, 0, none⟩) (k + 1) cap) (k + 1) ts ∧
      (∀ q, q < wc.heap.size → q ≠ po → (w3.setCell ⟨po, 3, none⟩ (.slice (some ⟨g, 0, none⟩) (k + 1) cap)).heap[q]? = wc.heap[q]?) ∧ Below w.heap.size w (w3.setCell ⟨po, 3, none⟩ (.slice (some ⟨g, 0, none⟩) (k + 1) cap)) ∧ wc.heap.size ≤ (w3.setCell ⟨po, 3, none⟩ (.slice (some ⟨g, 0, none⟩) (k + 1) cap)).heap.size := by
  have hs1 := hb1.size
  have hs3 := hg3.size
  simp only [World.size_alloc] at hs3
  have hw0 := hb.size
  have hvb := fun q (hq : (Value.slice A2 k c2).ownBlock = some q) => (hG.own.lt q hq).1
  refine ⟨ho3.set 3 _, (hG.step hb1 hsz hk ht hown3 hg3 hat3).set hol, fun q hq hqp => ?_, ?_, ?_⟩
  · rw [Below.heap_setCell _ _ _ _ hqp, hg3.block q (by simp; omega) (fun e => by have := hvb q e.symm; omega), Below.heap_alloc _ _ _ (by omega), hb1.block q (by omega)]
    exact hold q hq hqp
  · exact (((hb.trans (hb1.mono hw0)).alloc (by omega) _).grown hg3 (by simp; omega) (fun q hq => by have := hvb q hq; omega)).setCell hpo _
  · show wc.heap.size ≤ (w3.setCell _ _).heap.size
    simp [World.setCell]
    omega

end Go.Proofs.YtlmbnefoobameaaGreatDoor
end

section
namespace Go.Proofs.YtlmbnefoobameaaGreatDoor
set_option maxRecDepth 100000
open Go.RowKit
attribute [local go_sem ↓] Go.wp_at_zero Go.wp_at_succ

theorem BytesAt.allocO {w : World} {A : Option Addr} {n : Nat} (h : BytesAt w w.heap.size A n) (o : Obj) : BytesAt (w.alloc o) (w.alloc o).heap.size A n :=
  (h.below ((Below.refl w.heap.size w).alloc (Nat.le_refl _) o)).keepMore (by simp)
/-- An optic is drawn, in new blocks; what was there stands. -/
def GivesOt (w : World) (e : Ending) (w' : World) : Prop := (∃ v t, e = .returned v ∧ OtIn w' (Span w.heap.size w'.heap.size) v t ∧ szOt t ≤ 80) ∧ Below w.heap.size w w'
/-- Two optics are drawn; what was there stands. -/
def GivesTwoOt (w : World) (e : Ending) (w' : World) : Prop := (∃ v t v' t', e = .returned (.tuple #[v, v']) ∧ OtIn w' (Span w.heap.size w'.heap.size) v t ∧ szOt t ≤ 80 ∧ OtIn w' (Span w.heap.size w'.heap.size) v' t' ∧ szOt t' ≤ 80) ∧ Below w.heap.size w w'
theorem otIn_set4 {W : World} {S : Nat → Prop} {lo : Nat} {v : Value} {t : Ot} (h : OtIn W S v t) (hS : ∀ b, S b → lo ≤ b ∧ b < W.heap.size) (q b0 : Nat) (hq : q < lo) (hb : b0 ≤ lo) (a b c d : Value) : OtIn ((((W.setCell ⟨q, 0, none⟩ a).setCell ⟨q, 1, none⟩ b).setCell ⟨q, 2, none⟩ c).setCell ⟨q, 3, none⟩ d) (Span b0 ((((W.setCell ⟨q, 0, none⟩ a).setCell ⟨q, 1, none⟩ b).setCell ⟨q, 2, none⟩ c).setCell ⟨q, 3, none⟩ d).heap.size) v t := by
  have hk : ∀ g, g ≠ q → ((((W.setCell ⟨q, 0, none⟩ a).setCell ⟨q, 1, none⟩ b).setCell ⟨q, 2, none⟩ c).setCell ⟨q, 3, none⟩ d).heap[g]? = W.heap[g]? := fun g hg => by
    rw [Below.heap_setCell _ _ _ _ hg, Below.heap_setCell _ _ _ _ hg, Below.heap_setCell _ _ _ _ hg, Below.heap_setCell _ _ _ _ hg]
  have hs : ((((W.setCell ⟨q, 0, none⟩ a).setCell ⟨q, 1, none⟩ b).setCell ⟨q, 2, none⟩ c).setCell ⟨q, 3, none⟩ d).heap.size = W.heap.size := by simp [World.setCell]
  rw [hs]
  exact (h.keep fun g hg _ => hk g (by have := (hS g hg).1; omega)).wide fun g hg => ⟨Nat.le_trans hb (hS g hg).1, (hS g hg).2⟩

/-- The optic under way: its box, its tree beside the box, the result's box. -/
structure WrapAt (w : World) (lo z : Nat) (W : World) (u : Ot) (A : Option Addr) (c : Nat) : Prop where
  box : Whole1 W z 26 #[.int .i64 u.kind, .string u.name, .int .i64 u.num, .slice A u.args.length c]
  tree : OtIn W (fun b => lo ≤ b ∧ b < W.heap.size ∧ b ≠ z) (.agg #[.int .i64 u.kind, .string u.name, .int .i64 u.num, .slice A u.args.length c]) u
  res : Whole1 W w.heap.size 26 #[.int .i64 0, .string ⟨#[]⟩, .int .i64 0, .slice none 0 0]
  below : Below w.heap.size w W
theorem WrapAt.step {w : World} {lo z : Nat} {W W' : World} {u : Ot} {A : Option Addr} {c : Nat} (h : WrapAt w lo z W u A c) (hw : w.heap.size < lo) (hz : lo ≤ z) (hs : W'.heap.size = W.heap.size + 1) (hk : ∀ q, q < W.heap.size → q ≠ z → W'.heap[q]? = W.heap[q]?) (hn : Whole1 W' W.heap.size 26 #[.int .i64 u.kind, .string u.name, .int .i64 u.num, .slice A u.args.length c]) (hb : Whole1 W' z 26 #[.int .i64 11, .string ⟨#[]⟩, .int .i64 0, .slice (some ⟨W.heap.size, 0, none⟩) 1 1]) (hB : Below w.heap.size w W') : WrapAt w lo z W' (.mk 11 0 ⟨#[]⟩ [u]) (some ⟨W.heap.size, 0, none⟩) 1 := by
  have hzl := h.box.lt
  refine ⟨hb, ?_, (hk _ h.res.lt (by omega)).trans h.res, hB⟩
  have hkeep : OtIn W' (fun b => lo ≤ b ∧ b < W.heap.size ∧ b ≠ z) (.agg #[.int .i64 u.kind, .string u.name, .int .i64 u.num, .slice A u.args.length c]) u := h.tree.keep fun b hb' _ => hk b hb'.2.1 hb'.2.2
  refine OtIn.of (t := .mk 11 0 ⟨#[]⟩ [u]) (Sa := fun b => lo ≤ b ∧ b < W'.heap.size ∧ b ≠ z) (Nat.zero_le _) ⟨by simp [Ot.args, maxLen], W.heap.size, fun _ => .agg #[.int .i64 u.kind, .string u.name, .int .i64 u.num, .slice A u.args.length c], fun _ b => lo ≤ b ∧ b < W.heap.size ∧ b ≠ z, .inr ⟨rfl, ⟨by omega, by omega, by omega⟩, _, hn, fun i hi j hj => ?_⟩, fun i hi b hb' => ⟨⟨hb'.1, by have := hb'.2.1; omega, hb'.2.2⟩, by have := hb'.2.1; omega⟩, fun i j hi hj hne => ?_, fun i hi => ?_⟩ fun b hb' => hb'
  · simp only [Ot.args, List.length_singleton] at hi
    have h0 : i = 0 := by omega
    subst h0
    have : j = 0 ∨ j = 1 ∨ j = 2 ∨ j = 3 := by omega
    rcases this with rfl | rfl | rfl | rfl
    · simp [partAt]
    · simp [partAt]
    · simp [partAt]
    · simp [partAt]
  · simp only [Ot.args, List.length_singleton] at hi hj
    omega
  · simp only [Ot.args, List.length_singleton] at hi
    have h0 : i = 0 := by omega
    subst h0
    exact hkeep

theorem WrapAt.wrapped {w : World} {lo z : Nat} {W : World} {u : Ot} {A : Option Addr} {c : Nat} (h : WrapAt w lo z W u A c) (hw : w.heap.size < lo) (hz : lo ≤ z) :
    WrapAt w lo z (((((W.setCell ⟨z, 0, none⟩ (.int .i64 11)).setCell ⟨z, 1, none⟩ (.string ⟨#[]⟩)).setCell ⟨z, 2, none⟩ (.int .i64 0)).setCell ⟨z, 3, none⟩ (.slice (some ⟨W.heap.size, 0, none⟩) 1 1)).alloc (.cells #[.int .i64 u.kind, .string u.name, .int .i64 u.num, .slice A u.args.length c] 26)) (.mk 11 0 ⟨#[]⟩ [u]) (some ⟨W.heap.size, 0, none⟩) 1 := by
  have hS : ((((W.setCell ⟨z, 0, none⟩ (.int .i64 11)).setCell ⟨z, 1, none⟩ (.string ⟨#[]⟩)).setCell ⟨z, 2, none⟩ (.int .i64 0)).setCell ⟨z, 3, none⟩ (.slice (some ⟨W.heap.size, 0, none⟩) 1 1)).heap.size = W.heap.size := by simp [World.setCell]
  have hK : ∀ q, q ≠ z → ((((W.setCell ⟨z, 0, none⟩ (.int .i64 11)).setCell ⟨z, 1, none⟩ (.string ⟨#[]⟩)).setCell ⟨z, 2, none⟩ (.int .i64 0)).setCell ⟨z, 3, none⟩ (.slice (some ⟨W.heap.size, 0, none⟩) 1 1)).heap[q]? = W.heap[q]? := fun q hq => by
    rw [Below.heap_setCell _ _ _ _ hq, Below.heap_setCell _ _ _ _ hq, Below.heap_setCell _ _ _ _ hq, Below.heap_setCell _ _ _ _ hq]
  have hb := (((h.box.set 0 (.int .i64 11)).set 1 (.string ⟨#[]⟩)).set 2 (.int .i64 0)).set 3 (.slice (some ⟨W.heap.size, 0, none⟩) 1 1)
  have hB := (((h.below.setCell (p := ⟨z, 0, none⟩) (by show w.heap.size ≤ z; omega) (.int .i64 11)).setCell (p := ⟨z, 1, none⟩) (by show w.heap.size ≤ z; omega) (.string ⟨#[]⟩)).setCell (p := ⟨z, 2, none⟩) (by show w.heap.size ≤ z; omega) (.int .i64 0)).setCell (p := ⟨z, 3, none⟩) (by show w.heap.size ≤ z; omega) (.slice (some ⟨W.heap.size, 0, none⟩) 1 1)
  have hzl := h.box.lt
  generalize ((((W.setCell ⟨z, 0, none⟩ (.int .i64 11)).setCell ⟨z, 1, none⟩ (.string ⟨#[]⟩)).setCell ⟨z, 2, none⟩ (.int .i64 0)).setCell ⟨z, 3, none⟩ (.slice (some ⟨W.heap.size, 0, none⟩) 1 1)) = W4 at *
  have hN := Whole1.new W4 26 #[.int .i64 u.kind, .string u.name, .int .i64 u.num, .slice A u.args.length c]
  rw [hS] at hN
  refine h.step hw hz (by simp [hS]) (fun q hq hne => (Below.heap_alloc _ _ _ (by omega)).trans (hK q hne)) hN (hb.below ((Below.refl W4.heap.size W4).alloc (Nat.le_refl _) _) (by omega)) (hB.alloc hB.size _)

end Go.Proofs.YtlmbnefoobameaaGreatDoor
end

section
namespace Go.Proofs.YtlmbnefoobameaaGreatDoor
open Go.RowKit
attribute [local go_sem ↓] Go.wp_at_zero Go.wp_at_succ

theorem own_form {w : World} {base n : Nat} {v : Value} {xs : List Value} {ss : List ByteArray} (h : w.ownsRow base 9 1 v n xs) (hx : strVals ss = xs) : ∃ A c, v = .slice A ss.length c ∧ (ss = [] ∨ ∃ g, A = some ⟨g, 0, none⟩ ∧ base ≤ g ∧ RowStrs w g ss) := by
  rcases RowStrs.of_own (own_strs h hx) with ⟨rfl, rfl⟩ | ⟨g, cap, rfl, h1, h2⟩
  · exact ⟨none, 0, rfl, .inl rfl⟩
  · exact ⟨_, _, rfl, .inr ⟨g, rfl, h1, h2⟩⟩

theorem news3 (w : World) (t : TypeId) (a b c : Value) (h1 : a.oneCell' = true := by rfl) (h2 : b.oneCell' = true := by rfl) (h3 : c.oneCell' = true := by rfl) :
    (∀ j u, [a, b, c][j]? = some u → (w.alloc (.cells #[a, b, c] t)).cell? ((⟨w.heap.size, 0, none⟩ : Addr).add j) = some u) ∧ ∀ u ∈ [a, b, c], u.oneCell' = true := by
  constructor
  · intro j u hj
    rw [WideShapes.add_plain, World.cell?_alloc_at _ _ _ _ rfl, Nat.zero_add]
    simpa using hj
  · intro u hu
    simp at hu
    rcases hu with rfl | rfl | rfl
    · exact h1
    · exact h2
    · exact h3

end Go.Proofs.YtlmbnefoobameaaGreatDoor
end

section
namespace Go.Proofs.YtlmbnefoobameaaGreatDoor
open Go.RowKit

theorem own_base {w : World} {base base' size k : Nat} {e : TypeId} {v : Value} {xs : List Value} (h : w.ownsRow base' e size v k xs) (hb : base ≤ base') : w.ownsRow base e size v k xs :=
  ⟨h.1, h.2.imp id fun ⟨g, cap, cur, h1, h2, h3⟩ => ⟨g, cap, cur, h1, Nat.le_trans hb h2, h3⟩⟩
theorem own_len {w : World} {base k : Nat} {e : TypeId} {v : Value} {xs : List Value} (h : w.ownsRow base e 1 v k xs) : k ≤ maxLen := by
  rcases h.2 with ⟨_, h2⟩ | ⟨g, cap, cur, h1, h2, h3, h4, h5, _⟩
  · omega
  · omega

end Go.Proofs.YtlmbnefoobameaaGreatDoor

namespace Go.Proofs.YtlmbnefoobameaaGreatDoor
open Go.RowKit
attribute [local go_sem ↓] Go.wp_at_zero Go.wp_at_succ

end Go.Proofs.YtlmbnefoobameaaGreatDoor

namespace Go.Proofs.YtlmbnefoobameaaGreatDoor
open Go.RowKit
attribute [local go_sem ↓] Go.wp_at_zero Go.wp_at_succ

theorem own_keep1 {w w' : World} {base k : Nat} {e : TypeId} {v : Value} {xs : List Value} (h : w.ownsRow base e 1 v k xs) (hk : ∀ g, v.ownBlock = some g → w'.heap[g]? = w.heap[g]?) : w'.ownsRow base e 1 v k xs := by
  refine ⟨h.1, ?_⟩
  rcases h.2 with h2 | ⟨g, cap, cur, h1, h2, h3, h4⟩
  · exact .inl h2
  · exact .inr ⟨g, cap, cur, h1, h2, (hk g (by rw [h1]; rfl)).trans h3, h4⟩

end Go.Proofs.YtlmbnefoobameaaGreatDoor
end

section
namespace Go.Proofs.YtlmbnefoobameaaGreatDoor
open Go.RowKit
attribute [local go_sem ↓] Go.wp_at_zero Go.wp_at_succ

theorem CurAt.belowP {w w' : World} {B p b : Nat} (h : CurAt w B p) (hb : Below b w w') (hp : p < b) : CurAt w' B p := by
  obtain ⟨A, n, cap, i, x, h1, h2, h3, h4, h5⟩ := h
  exact ⟨A, n, cap, i, x, h1.below hb hp, h2, h3, h4.below (hb.mono (by omega)), h5⟩
theorem CurAt.alloc3 {w : World} {B p : Nat} (h : CurAt w B p) (o : Obj) : CurAt (w.alloc o) B p := h.belowP ((Below.refl w.heap.size w).alloc (Nat.le_refl _) o) h.lt
theorem ints_new3 (w : World) (t : TypeId) (zs : List Int) : IntsAt (w.alloc (.cells (zs.map (Value.int .i64)).toArray t)) (some ⟨w.heap.size, 0, none⟩) zs := fun i hi => by
  refine ⟨_, _, rfl, ?_⟩
  rw [(Whole1.new w t _).cell]
  simp [hi]

mutual
/-- What a value drawn of the type may measure. -/
def drawSz : Ty → Nat | .mk k ls ts => if k = 5 then 3 * (1 + drawSzs ts) else sumSizes ls + ls.length + drawSzs ts + ts.length
def drawSzs : List Ty → Nat | [] => 0 | t :: r => drawSz t + drawSzs r
end
/-- Every node has one of the forms, and what is drawn of it is no bigger than n. -/
def DrawQ (n : Nat) (t : Ty) : Prop := formTy t = true ∧ drawSz t ≤ n
theorem dq_leaf {x : Int} {n : Nat} (hx : x ∈ ([1, 2, 1] : List Int)) : DrawQ n (.mk x [] []) := by
  simp at hx
  have : x = 1 ∨ x = 2 := by omega
  rcases this with rfl | rfl
  · exact ⟨by simp [formTy, formTys, nodeB], by simp [drawSz, drawSzs, sumSizes]⟩
  · exact ⟨by simp [formTy, formTys, nodeB], by simp [drawSz, drawSzs, sumSizes]⟩
theorem dq_list {t : Ty} {n : Nat} (h : DrawQ n t) (h1 : 1 ≤ n) : DrawQ (8 * n) (.mk 5 [] [t]) := by
  obtain ⟨h2, h3⟩ := h
  refine ⟨by simp [formTy, formTys, nodeB, h2], ?_⟩
  simp only [drawSz, drawSzs, if_true]
  omega
theorem labels_pq : labelsB [⟨#[112]⟩, ⟨#[113]⟩] = true := by decide
theorem labels_ab : labelsB [⟨#[97]⟩, ⟨#[98]⟩] = true := by decide
theorem dq_pq {t t2 : Ty} {n : Nat} (h : DrawQ n t) (k : DrawQ n t2) (h1 : 1 ≤ n) : DrawQ (8 * n) (.mk 4 [⟨#[112]⟩, ⟨#[113]⟩] [t, t2]) := by
  obtain ⟨h2, h3⟩ := h
  obtain ⟨k2, k3⟩ := k
  have e : ∀ a : UInt8, (⟨#[a]⟩ : ByteArray).size = 1 := fun _ => rfl
  refine ⟨by simp [formTy, formTys, nodeB, h2, k2, labels_pq], ?_⟩
  simp [drawSz, drawSzs, sumSizes, e]
  omega
theorem dq_ab {t t2 : Ty} {n : Nat} (h : DrawQ n t) (k : DrawQ n t2) (h1 : 1 ≤ n) : DrawQ (8 * n) (.mk 3 [⟨#[97]⟩, ⟨#[98]⟩] [t, t2]) := by
  obtain ⟨h2, h3⟩ := h
  obtain ⟨k2, k3⟩ := k
  have e : ∀ a : UInt8, (⟨#[a]⟩ : ByteArray).size = 1 := fun _ => rfl
  refine ⟨by simp [formTy, formTys, nodeB, h2, k2, labels_ab], ?_⟩
  simp [drawSz, drawSzs, sumSizes, e]
  omega

theorem Whole1.newAt (w : World) (t : TypeId) (cs : Array Value) (n : Nat) (h : w.heap.size = n) : Whole1 (w.alloc (.cells cs t)) n t cs := by
  subst h
  exact Whole1.new _ _ _
theorem below_a0 {w w' : World} (h : Below w.drew.heap.size w.drew w') : Below w.heap.size w w' := (Below.refl w.heap.size w).drew.trans h
theorem below_a1 {w w' : World} {o : Obj} (h : Below (w.alloc o).heap.size (w.alloc o) w') : Below w.heap.size w w' :=
  ((Below.refl w.heap.size w).alloc (Nat.le_refl _) o).trans (h.mono (by simp))
theorem below_a2 {w w' : World} {o o2 : Obj} (h : Below ((w.alloc o).alloc o2).heap.size ((w.alloc o).alloc o2) w') : Below w.heap.size w w' := below_a1 (below_a1 h)

theorem sz_two (k : Int) (s1 s2 : ByteArray) (h1 : s1.size = 1) (h2 : s2.size = 1) (t t2 : Ty) : szTy (.mk k [s1, s2] [t, t2]) = 6 + szTy t + szTy t2 := by
  simp only [szTy, szTys, sumSizes, List.map_cons, List.map_nil, List.sum_cons, List.sum_nil, List.length_cons, List.length_nil, h1, h2]
  omega
theorem set3_other (w6 : World) (r z i : Nat) (a b c : Value) (h : z ≠ r) : (((w6.setCell ⟨r, 0, none⟩ a).setCell ⟨r, 1, none⟩ b).setCell ⟨r, 2, none⟩ c).cell? ⟨z, i, none⟩ = w6.cell? ⟨z, i, none⟩ := by
  rw [World.cell?_setCell_other _ _ _ _ (fun e => by injection e with e; omega), World.cell?_setCell_other _ _ _ _ (fun e => by injection e with e; omega), World.cell?_setCell_other _ _ _ _ (fun e => by injection e with e; omega)]

theorem pick3 (p B : Nat) (W : World) (n : Nat) (hn : W.heap.size = n) (h : CurAt W B p) :
    Calls Tryz.prog 30 #[.pointer (some ⟨p, 0, none⟩), .slice (some ⟨n, 0, none⟩) 3 3] (W.alloc (.cells #[.int .i64 1, .int .i64 2, .int .i64 1] 3)) (DrawnOf (W.alloc (.cells #[.int .i64 1, .int .i64 2, .int .i64 1] 3)) B p [1, 2, 1]) := by
  subst hn
  exact l1PickInt_any p B 3 (some ⟨W.heap.size, 0, none⟩) [1, 2, 1] _ (CurAt.alloc3 h _) (ints_new3 W _ [1, 2, 1]) (fun q b off e => by cases e; have := h.lt; omega) (by decide) (by decide)

end Go.Proofs.YtlmbnefoobameaaGreatDoor
end

section
namespace Go.Proofs.YtlmbnefoobameaaGreatDoor
open Go.RowKit

section
variable {w w' : World} {base lc ac : Nat} {L A : Option Addr} {t : Ty} {xs : List Value} {vs : Nat → Value} {lo hi : Nat → Nat}

theorem own_addr {n k : Nat} {A : Option Addr} {c sz : Nat} {e : TypeId} {ys : List Value} (h : w.ownsRow base e sz (.slice A n c) k ys) (g : Nat) (hg : (Value.slice A n c).ownBlock = some g) : A = some ⟨g, 0, none⟩ := by
  rcases h.2 with ⟨h1, _⟩ | ⟨g', cap, cur, h1, _⟩
  · injection h1 with e1
    subst e1
    cases hg
  · injection h1 with e1
    subst e1
    cases hg
    rfl

end

theorem grown_low {w w4 w5 : World} {p b : Nat} (hg : w.grownBy w4 (some p)) (hb : Below b w4 w5) (h : w.heap.size ≤ b) : w.grownBy w5 (some p) :=
  ⟨hb.os.trans hg.os, hb.tape.trans hg.tape, hb.output.trans hg.output, Nat.le_trans hg.size hb.size, fun i hi hne => (hb.block i (by omega)).trans (hg.block i hi hne)⟩
theorem news1 (w : World) (t : TypeId) (a : Value) (h : a.oneCell' = true) : (∀ j u, [a][j]? = some u → (w.alloc (.cells #[a] t)).cell? ((⟨w.heap.size, 0, none⟩ : Addr).add j) = some u) ∧ ∀ u ∈ [a], u.oneCell' = true :=
  ⟨World.news_of_block (cs := #[a]) (Whole1.new w t #[a]), fun u hu => by simp at hu; subst hu; exact h⟩
theorem sz_label (t : Ty) (s : ByteArray) : szTy (.mk t.kind (t.labels ++ [s]) t.args) = szTy t + 1 + s.size := by
  cases t
  simp [szTy, sumSizes, Ty.labels, Ty.args]
  omega
theorem sz_arg (t u : Ty) : szTy (.mk t.kind t.labels (t.args ++ [u])) = szTy t + 1 + szTy u := by
  cases t
  simp [szTy, Ty.labels, Ty.args, szTys_append, szTys]
  omega

theorem span_snoc {lo hi : Nat → Nat} {ts : List Ty} {u : Ty} {z a b : Nat} {k : Int} {ls : List ByteArray} (h : ∀ i, i < ts.length → ¬ Span (lo i) (hi i) z) (hz : z < a) : ∀ i, i < (Ty.mk k ls (ts ++ [u])).args.length → ¬ Span ((fun i => if i = ts.length then a else lo i) i) ((fun i => if i = ts.length then b else hi i) i) z := fun i hi' hsp => by
  have h1 : i < (ts ++ [u]).length := hi'
  rw [List.length_append, List.length_singleton] at h1
  by_cases e : i = ts.length
  · simp only [e, if_true] at hsp
    have := hsp.1
    omega
  · simp only [e, if_false] at hsp
    exact h i (by omega) hsp

theorem box_grown {w w3 : World} {p z : Nat} (hg : w.grownBy w3 (some p)) (hz : w.heap.size ≤ z) (a b c : Value) : w.grownBy (((w3.setCell ⟨z, 0, none⟩ a).setCell ⟨z, 1, none⟩ b).setCell ⟨z, 2, none⟩ c) (some p) := by
  have hb : Below w.heap.size w3 (((w3.setCell ⟨z, 0, none⟩ a).setCell ⟨z, 1, none⟩ b).setCell ⟨z, 2, none⟩ c) := (((Below.refl w.heap.size w3).setCell hz _).setCell hz _).setCell hz _
  exact ⟨hb.os.trans hg.os, hb.tape.trans hg.tape, hb.output.trans hg.output, Nat.le_trans hg.size hb.size, fun i hi hne => (hb.block i hi).trans (hg.block i hi hne)⟩


end Go.Proofs.YtlmbnefoobameaaGreatDoor
end

section
namespace Go.Proofs.YtlmbnefoobameaaGreatDoor
open Go.RowKit
attribute [local go_sem ↓] Go.wp_at_zero Go.wp_at_succ

theorem pick_azZ (p B : Nat) (W : World) (h : CurAt W B p) :
    Calls Tryz.prog 31 #[.pointer (some ⟨p, 0, none⟩), .slice (some ⟨W.heap.size, 0, none⟩) 3 3] (W.alloc (.cells #[.string ⟨#[97]⟩, .string ⟨#[122]⟩, .string ⟨#[90]⟩] 9)).drew (DrawnStr (W.alloc (.cells #[.string ⟨#[97]⟩, .string ⟨#[122]⟩, .string ⟨#[90]⟩] 9)).drew B p [⟨#[97]⟩, ⟨#[122]⟩, ⟨#[90]⟩]) :=
  l1Pick_any p B (W.heap.size + 1) 3 (some ⟨W.heap.size, 0, none⟩) [⟨#[97]⟩, ⟨#[122]⟩, ⟨#[90]⟩] _ (CurAt.belowP h (((Below.refl W.heap.size W).alloc (Nat.le_refl _) _).drew) h.lt) (StrsAt.of_whole (t := 9) (Whole1.new W _ _) _ (by omega)) (fun q b off e => by cases e; have := h.lt; omega) (by decide) (by decide)
end Go.Proofs.YtlmbnefoobameaaGreatDoor

namespace Go.Proofs.YtlmbnefoobameaaGreatDoor
open Go.RowKit
attribute [local go_sem ↓] Go.wp_at_zero Go.wp_at_succ

theorem BytesAt.alloc {w : World} {A : Option Addr} {n : Nat} (h : BytesAt w w.heap.size A n) (o : Obj) : BytesAt (w.alloc o) (w.alloc o).heap.size A n :=
  (h.below ((Below.refl w.heap.size w).alloc (Nat.le_refl _) o)).keepMore (by simp)
theorem pick_abpz (p B : Nat) (W : World) (h : CurAt W B p) :
    Calls Tryz.prog 31 #[.pointer (some ⟨p, 0, none⟩), .slice (some ⟨W.heap.size, 0, none⟩) 4 4] (W.alloc (.cells #[.string ⟨#[97]⟩, .string ⟨#[98]⟩, .string ⟨#[112]⟩, .string ⟨#[122]⟩] 9)) (DrawnStr (W.alloc (.cells #[.string ⟨#[97]⟩, .string ⟨#[98]⟩, .string ⟨#[112]⟩, .string ⟨#[122]⟩] 9)) B p [⟨#[97]⟩, ⟨#[98]⟩, ⟨#[112]⟩, ⟨#[122]⟩]) :=
  l1Pick_any p B (W.heap.size + 1) 4 (some ⟨W.heap.size, 0, none⟩) [⟨#[97]⟩, ⟨#[98]⟩, ⟨#[112]⟩, ⟨#[122]⟩] _ (CurAt.belowP h ((Below.refl W.heap.size W).alloc (Nat.le_refl _) _) h.lt) (StrsAt.of_whole (t := 9) (Whole1.new W _ _) _ (by omega)) (fun q b off e => by cases e; have := h.lt; omega) (by decide) (by decide)
theorem pick_abpz' (p B : Nat) (W : World) (h : CurAt W B p) :
    Calls Tryz.prog 31 #[.pointer (some ⟨p, 0, none⟩), .slice (some ⟨W.heap.size, 0, none⟩) 4 4] (W.alloc (.cells #[.string ⟨#[97]⟩, .string ⟨#[98]⟩, .string ⟨#[112]⟩, .string ⟨#[122]⟩] 9)).drew (DrawnStr (W.alloc (.cells #[.string ⟨#[97]⟩, .string ⟨#[98]⟩, .string ⟨#[112]⟩, .string ⟨#[122]⟩] 9)).drew B p [⟨#[97]⟩, ⟨#[98]⟩, ⟨#[112]⟩, ⟨#[122]⟩]) :=
  l1Pick_any p B (W.heap.size + 1) 4 (some ⟨W.heap.size, 0, none⟩) [⟨#[97]⟩, ⟨#[98]⟩, ⟨#[112]⟩, ⟨#[122]⟩] _ (CurAt.belowP h (((Below.refl W.heap.size W).alloc (Nat.le_refl _) _).drew) h.lt) (StrsAt.of_whole (t := 9) (Whole1.new W _ _) _ (by omega)) (fun q b off e => by cases e; have := h.lt; omega) (by decide) (by decide)

end Go.Proofs.YtlmbnefoobameaaGreatDoor
end

section
namespace Go.Proofs.YtlmbnefoobameaaGreatDoor
open Go.RowKit

def commas : List (List UInt8) → List UInt8
  | [] => []
  | [a] => a
  | a :: b :: r => a ++ 44 :: commas (b :: r)
def lab : List ByteArray → List (List UInt8) → List (List UInt8)
  | l :: ls, x :: xs => (l.data.toList ++ 58 :: x) :: lab ls xs
  | _, _ => []
def nodeTxt (k : Int) (ls : List ByteArray) (xs : List (List UInt8)) : List UInt8 :=
  if k = 1 then [73] else if k = 2 then [66] else if k = 3 then 123 :: (commas (lab ls xs) ++ [125]) else if k = 4 then 60 :: (commas (lab ls xs) ++ [62]) else 91 :: (xs.headD [] ++ [93])
mutual
/-- The text of a tree. -/
def txt : Ty → List UInt8 | .mk k ls ts => nodeTxt k ls (txts ts)
def txts : List Ty → List (List UInt8) | [] => [] | t :: r => txt t :: txts r
end
theorem txts_map : ∀ (ts : List Ty), txts ts = ts.map txt
  | [] => by rw [txts]; rfl
  | t :: r => by rw [txts, txts_map r]; rfl

/-- A letter or digit. -/
def wordC (c : UInt8) : Bool := (decide (48 ≤ c.toNat) && decide (c.toNat ≤ 57)) || (decide (97 ≤ c.toNat) && decide (c.toNat ≤ 122))
/-- The first byte is c: what comes behind it. -/
def eat (c : UInt8) : List UInt8 → Option (List UInt8)
  | [] => none
  | x :: r => if x = c then some r else none
theorem eat_some {c : UInt8} {l r : List UInt8} (h : eat c l = some r) : l = c :: r := by
  cases l with
  | nil => cases h
  | cons x q =>
    by_cases e : x = c
    · rw [eat, if_pos e] at h
      injection h with h
      rw [e, h]
    · rw [eat, if_neg e] at h
      cases h
theorem eat_cons (c : UInt8) (r : List UInt8) : eat c (c :: r) = some r := by simp [eat]
theorem eat_other {c x : UInt8} (r : List UInt8) (h : x ≠ c) : eat c (x :: r) = none := by simp [eat, h]

/-- Labels with parts, as far as commas stand between. -/
def rdLab (f : List UInt8 → Option (Ty × List UInt8)) : Nat → List UInt8 → Option (List ByteArray × List Ty × List UInt8)
  | 0, _ => none
  | n + 1, l =>
    match eat 58 (l.dropWhile wordC) with
    | none => none
    | some r =>
      match f r with
      | none => none
      | some (t, r1) =>
        match eat 44 r1 with
        | none => some ([⟨(l.takeWhile wordC).toArray⟩], [t], r1)
        | some r2 =>
          match rdLab f n r2 with
          | none => none
          | some (ls, ts, q) => some (⟨(l.takeWhile wordC).toArray⟩ :: ls, t :: ts, q)
def rdBox (f : List UInt8 → Option (Ty × List UInt8)) (k : Int) (e : UInt8) (l : List UInt8) : Option (Ty × List UInt8) :=
  match rdLab f (l.length + 1) l with
  | none => none
  | some (ls, ts, q) => match eat e q with
    | none => none
    | some r => some (.mk k ls ts, r)
/-- A tree of n levels at most is read. -/
def rdTy : Nat → List UInt8 → Option (Ty × List UInt8)
  | 0, _ => none
  | n + 1, l =>
    match eat 73 l with
    | some r => some (.mk 1 [] [], r)
    | none => match eat 66 l with
      | some r => some (.mk 2 [] [], r)
      | none => match eat 123 l with
        | some r => rdBox (rdTy n) 3 125 r
        | none => match eat 60 l with
          | some r => rdBox (rdTy n) 4 62 r
          | none => match eat 91 l with
            | none => none
            | some r => match rdTy n r with
              | none => none
              | some (t, r1) => match eat 93 r1 with
                | none => none
                | some r2 => some (.mk 5 [] [t], r2)

/-- What is read is the text of what it is read as, and no shorter than the tree. -/
def Sound (f : List UInt8 → Option (Ty × List UInt8)) : Prop := ∀ l t r, f l = some (t, r) → l = txt t ++ r ∧ szTy t + 1 ≤ (txt t).length
theorem rdLab_sound {f : List UInt8 → Option (Ty × List UInt8)} (hf : Sound f) : ∀ (n : Nat) (l : List UInt8) (ls : List ByteArray) (ts : List Ty) (q : List UInt8), rdLab f n l = some (ls, ts, q) →
    l = commas (lab ls (txts ts)) ++ q ∧ ls.length = ts.length ∧ ls ≠ [] ∧ ls.length + sumSizes ls + szTys ts ≤ (commas (lab ls (txts ts))).length + 1 := by
  intro n
  induction n with
  | zero =>
    intro l ls ts q h
    cases h
  | succ n ih =>
    intro l ls ts q h
    rw [rdLab] at h
    split at h
    · cases h
    · rename_i r hr
      split at h
      · cases h
      · rename_i t r1 ht
        obtain ⟨e1, e2⟩ := hf _ _ _ ht
        have hl : l = (⟨(l.takeWhile wordC).toArray⟩ : ByteArray).data.toList ++ 58 :: (txt t ++ r1) := by
          have h1 := eat_some hr
          rw [e1] at h1
          rw [← h1]
          exact (List.takeWhile_append_dropWhile).symm
        generalize (⟨(l.takeWhile wordC).toArray⟩ : ByteArray) = b at *
        have hbl : b.data.toList.length = b.size := by simp
        split at h
        · cases h
          refine ⟨?_, rfl, by simp, ?_⟩
          · rw [hl]
            simp [lab, txts, commas]
          · simp only [lab, txts, commas, List.length_append, List.length_cons, szTys, List.length_nil, sumSizes, List.map_cons, List.map_nil, List.sum_cons, List.sum_nil]
            omega
        · rename_i r2 hr2
          split at h
          · cases h
          · rename_i ls' ts' q' hq
            cases h
            obtain ⟨i1, i2, i3, i4⟩ := ih _ _ _ _ hq
            have hr3 := eat_some hr2
            obtain ⟨x, xs, hx⟩ : ∃ x xs, lab ls' (txts ts') = x :: xs := by
              cases ls' with
              | nil => exact absurd rfl i3
              | cons a aq =>
                cases ts' with
                | nil => simp at i2
                | cons u us => exact ⟨_, _, rfl⟩
            rw [hx] at i1 i4
            refine ⟨?_, by simp [i2], by simp, ?_⟩
            · rw [hl, hr3, i1]
              simp [lab, txts, commas, hx]
            · simp only [lab, txts, commas, hx, List.length_append, List.length_cons, szTys, sumSizes, List.map_cons, List.sum_cons] at i4 ⊢
              omega
theorem rdBox_sound {f : List UInt8 → Option (Ty × List UInt8)} (hf : Sound f) (k : Int) (e a : UInt8) (l : List UInt8) (t : Ty) (r : List UInt8) (hk : ∀ ls xs, nodeTxt k ls xs = a :: (commas (lab ls xs) ++ [e])) (h : rdBox f k e l = some (t, r)) :
    a :: l = txt t ++ r ∧ szTy t + 1 ≤ (txt t).length := by
  unfold rdBox at h
  split at h
  · cases h
  · rename_i ls ts q hq
    split at h
    · cases h
    · rename_i r' hr
      cases h
      obtain ⟨h1, h2, _, h3⟩ := rdLab_sound hf _ _ _ _ _ hq
      have h4 := eat_some hr
      rw [txt, hk, szTy]
      refine ⟨?_, ?_⟩
      · rw [h1, h4]
        simp
      · simp only [List.length_cons, List.length_append, List.length_nil]
        omega
theorem rdTy_sound (n : Nat) : Sound (rdTy n) := by
  induction n with
  | zero =>
    intro l t r h
    cases h
  | succ n ih =>
    intro l t r h
    rw [rdTy] at h
    split at h
    · rename_i r' hr
      cases h
      rw [eat_some hr]
      simp [txt, nodeTxt, szTy, szTys, sumSizes]
    · split at h
      · rename_i r' hr
        cases h
        rw [eat_some hr]
        simp [txt, nodeTxt, szTy, szTys, sumSizes]
      · split at h
        · rename_i r' hr
          rw [eat_some hr]
          exact rdBox_sound ih 3 125 123 _ _ _ (fun _ _ => by simp [nodeTxt]) h
        · split at h
          · rename_i r' hr
            rw [eat_some hr]
            exact rdBox_sound ih 4 62 60 _ _ _ (fun _ _ => by simp [nodeTxt]) h
          · split at h
            · cases h
            · rename_i r' hr
              split at h
              · cases h
              · rename_i t1 r1 ht
                split at h
                · cases h
                · rename_i r2 hr2
                  cases h
                  obtain ⟨e1, e2⟩ := ih _ _ _ ht
                  rw [eat_some hr, e1, eat_some hr2]
                  refine ⟨by simp [txt, nodeTxt, txts], ?_⟩
                  simp only [txt, nodeTxt, txts, szTy, szTys, sumSizes] at e2 ⊢
                  simp
                  omega

theorem name_word (s : ByteArray) (h : isNameB s = true) : ∀ c ∈ s.data.toList, wordC c = true := by
  intro c hc
  unfold isNameB at h
  simp only [Bool.and_eq_true, List.all_eq_true, List.mem_range] at h
  obtain ⟨i, hi, rfl⟩ := List.getElem_of_mem hc
  have hi' : i < s.size := by simpa using hi
  have h1 := h.1.1 i hi'
  have h2 : s.data.getD i 0 = s.data.toList[i] := by
    rw [Array.getD, dif_pos (show i < s.data.size from hi')]
    simp
  rw [h2] at h1
  unfold nameAt at h1
  unfold wordC
  simp only [Bool.or_eq_true, Bool.and_eq_true, decide_eq_true_eq] at h1 ⊢
  omega
theorem word_taken (s : ByteArray) (h : isNameB s = true) (r : List UInt8) : (s.data.toList ++ 58 :: r).takeWhile wordC = s.data.toList ∧ (s.data.toList ++ 58 :: r).dropWhile wordC = 58 :: r := by
  have hw := name_word s h
  generalize s.data.toList = l at *
  induction l with
  | nil => simp [wordC]
  | cons a q ih =>
    have h1 := ih fun c hc => hw c (by simp [hc])
    have h2 := hw a (by simp)
    simp [h2, h1]

/-- Every tree of the class is read from its text. -/
def Reads (f : List UInt8 → Option (Ty × List UInt8)) (t : Ty) : Prop := ∀ r, f (txt t ++ r) = some (t, r)
theorem rdLab_full {f : List UInt8 → Option (Ty × List UInt8)} : ∀ (ls : List ByteArray) (ts : List Ty), ls.length = ts.length → ls ≠ [] → (∀ l ∈ ls, isNameB l = true) → (∀ t ∈ ts, Reads f t) → ∀ (n : Nat) (e : UInt8) (r : List UInt8), e ≠ 44 → ls.length ≤ n →
    rdLab f n (commas (lab ls (txts ts)) ++ e :: r) = some (ls, ts, e :: r) := by
  intro ls
  induction ls with
  | nil => intro ts _ h; exact absurd rfl h
  | cons a aq ih =>
    intro ts hl _ hn hr n e r he hlen
    cases ts with
    | nil => simp at hl
    | cons u us =>
      cases n with
      | zero => simp at hlen
      | succ n =>
        have hal := hn a (by simp)
        have hru := hr u (by simp)
        cases aq with
        | nil =>
          cases us with
          | cons _ _ => simp at hl
          | nil =>
            have hw := word_taken a hal (txt u ++ e :: r)
            have e1 : commas (lab [a] (txts [u])) ++ e :: r = a.data.toList ++ 58 :: (txt u ++ e :: r) := by simp [lab, txts, commas]
            rw [e1, rdLab, hw.2, hw.1, eat_cons]
            simp only [hru (e :: r), eat_other r he]
        | cons b bs =>
          cases us with
          | nil => simp at hl
          | cons v vs =>
            have e1 : commas (lab (a :: b :: bs) (txts (u :: v :: vs))) ++ e :: r = a.data.toList ++ 58 :: (txt u ++ 44 :: (commas (lab (b :: bs) (txts (v :: vs))) ++ e :: r)) := by simp [lab, txts, commas]
            have hw := word_taken a hal (txt u ++ 44 :: (commas (lab (b :: bs) (txts (v :: vs))) ++ e :: r))
            have h1 := ih (v :: vs) (by simpa using hl) (by simp) (fun l h => hn l (by simp [h])) (fun t h => hr t (by simp [h])) n e r he (by simpa using hlen)
            rw [e1, rdLab, hw.2, hw.1, eat_cons]
            simp only [show ∀ q, f (txt u ++ q) = some (u, q) from hru, eat_cons, h1]
theorem lab_len : ∀ (ls : List ByteArray) (ts : List Ty), ls.length = ts.length → ls.length ≤ (commas (lab ls (txts ts))).length
  | [], _, _ => Nat.zero_le _
  | [a], [], h => by simp at h
  | [a], [u], _ => by
    simp [lab, txts, commas]
    omega
  | [a], _ :: _ :: _, h => by simp at h
  | a :: b :: bs, [], h => by simp at h
  | a :: b :: bs, [_], h => by simp at h
  | a :: b :: bs, u :: v :: vs, h => by
    have := lab_len (b :: bs) (v :: vs) (by simpa using h)
    simp only [lab, txts, commas, List.length_append, List.length_cons] at this ⊢
    omega
theorem labelsB_names {ls : List ByteArray} (h : labelsB ls = true) : ∀ l ∈ ls, isNameB l = true := by
  unfold labelsB at h
  simp only [Bool.and_eq_true, List.all_eq_true] at h
  exact h.1.1
theorem labelsB_some {ls : List ByteArray} (h : labelsB ls = true) : ls ≠ [] := by
  unfold labelsB at h
  simp only [Bool.and_eq_true, decide_eq_true_eq] at h
  intro e
  rw [e] at h
  simp at h
theorem formTys_mem : ∀ {ts : List Ty}, formTys ts = true → ∀ t ∈ ts, formTy t = true
  | [], _, t, h => by cases h
  | a :: r, h, t, ht => by
    rw [formTys, Bool.and_eq_true] at h
    rcases List.mem_cons.1 ht with rfl | h2
    · exact h.1
    · exact formTys_mem h.2 t h2
theorem depthTys_mem : ∀ {ts : List Ty} {n : Nat}, depthTys ts ≤ n → ∀ t ∈ ts, depthTy t ≤ n
  | [], _, _, t, h => by cases h
  | a :: r, n, h, t, ht => by
    rw [depthTys] at h
    rcases List.mem_cons.1 ht with rfl | h2
    · omega
    · exact depthTys_mem (by omega) t h2
theorem rdTy_full (n : Nat) : ∀ (t : Ty), formTy t = true → depthTy t ≤ n → Reads (rdTy n) t := by
  induction n with
  | zero =>
    intro t _ h
    rw [depthTy_eq] at h
    omega
  | succ n ih =>
    intro t hf hd r
    cases t with
    | mk k ls ts =>
      rw [formTy, Bool.and_eq_true] at hf
      rw [depthTy] at hd
      have hts : ∀ t ∈ ts, Reads (rdTy n) t := fun t ht => ih t (formTys_mem hf.1 t ht) (depthTys_mem (by omega) t ht)
      have hnode := hf.2
      unfold nodeB at hnode
      have box : ∀ (e : UInt8), e ≠ 44 → labelsB ls = true → ls.length = ts.length → rdBox (rdTy n) k e (commas (lab ls (txts ts)) ++ e :: r) = some (.mk k ls ts, r) := fun e he hl hlt => by
        have h1 := rdLab_full ls ts hlt (labelsB_some hl) (labelsB_names hl) hts ((commas (lab ls (txts ts)) ++ e :: r).length + 1) e r he (by have := lab_len ls ts hlt; rw [List.length_append]; omega)
        unfold rdBox
        rw [h1]
        simp only [eat_cons]
      rw [txt]
      by_cases h1 : k = 1 ∨ k = 2
      · rw [if_pos h1] at hnode
        simp only [Bool.and_eq_true, decide_eq_true_eq] at hnode
        obtain ⟨rfl, rfl⟩ : ls = [] ∧ ts = [] := ⟨List.eq_nil_of_length_eq_zero hnode.1, List.eq_nil_of_length_eq_zero hnode.2⟩
        rcases h1 with rfl | rfl
        · simp [nodeTxt, rdTy, eat]
        · simp [nodeTxt, rdTy, eat]
      · rw [if_neg h1] at hnode
        by_cases h2 : k = 3 ∨ k = 4
        · rw [if_pos h2] at hnode
          simp only [Bool.and_eq_true, decide_eq_true_eq] at hnode
          rcases h2 with rfl | rfl
          · have := box 125 (by decide) hnode.2 hnode.1.symm
            simp [nodeTxt, rdTy, eat, this]
          · have := box 62 (by decide) hnode.2 hnode.1.symm
            simp [nodeTxt, rdTy, eat, this]
        · rw [if_neg h2] at hnode
          by_cases h3 : k = 5
          · rw [if_pos h3] at hnode
            simp only [Bool.and_eq_true, decide_eq_true_eq] at hnode
            obtain rfl : ls = [] := List.eq_nil_of_length_eq_zero hnode.1
            obtain ⟨t, rfl⟩ := List.length_eq_one_iff.1 hnode.2
            subst h3
            have := hts t (by simp) (93 :: r)
            simp [nodeTxt, rdTy, eat, txts, this]
          · rw [if_neg h3] at hnode
            cases hnode

/-- The tree of a text: valid, with this text. -/
def parseB (s : ByteArray) : Option Ty :=
  match rdTy 8 s.data.toList with
  | some (t, []) => if validB t then some t else none
  | _ => none
theorem parseB_some {s : ByteArray} {t : Ty} (h : parseB s = some t) : validB t = true ∧ txt t = s.data.toList := by
  unfold parseB at h
  split at h
  · rename_i t' e
    split at h
    · cases h
      have := (rdTy_sound 8 _ _ _ e).1
      simp_all
    · cases h
  · cases h
theorem parseB_of {s : ByteArray} {t : Ty} (hv : validB t = true) (ht : txt t = s.data.toList) : parseB s = some t := by
  have h := hv
  unfold validB at h
  simp only [Bool.and_eq_true, decide_eq_true_eq] at h
  have h1 := rdTy_full 8 t h.2 h.1.2 []
  rw [List.append_nil, ht] at h1
  unfold parseB
  rw [h1]
  simp [hv]
theorem parseB_none {s : ByteArray} (h : ∀ t, validB t = true → txt t = s.data.toList → False) : parseB s = none := by
  cases hp : parseB s with
  | none => rfl
  | some t => exact (h t (parseB_some hp).1 (parseB_some hp).2).elim

/-- The text of a tree, if it is valid. -/
def formatB (t : Ty) : ByteArray := if validB t then ⟨(txt t).toArray⟩ else ⟨#[]⟩

end Go.Proofs.YtlmbnefoobameaaGreatDoor

namespace Go.Proofs.YtlmbnefoobameaaGreatDoor
open Go.RowKit

def sumLens (xs : List (List UInt8)) : Nat := (xs.map List.length).sum
theorem commas_len : ∀ (xs : List (List UInt8)), (commas xs).length ≤ sumLens xs + xs.length
  | [] => Nat.le_refl _
  | [a] => by simp [commas, sumLens]
  | a :: b :: r => by
    have := commas_len (b :: r)
    simp only [commas, sumLens, List.map_cons, List.sum_cons, List.length_append, List.length_cons] at this ⊢
    omega
theorem commas_snoc : ∀ (xs : List (List UInt8)) (a : List UInt8), xs ≠ [] → commas (xs ++ [a]) = commas xs ++ 44 :: a
  | [], _, h => absurd rfl h
  | [x], a, _ => rfl
  | x :: y :: r, a, _ => by
    have := commas_snoc (y :: r) a (by simp)
    rw [List.cons_append] at this
    show x ++ 44 :: commas (y :: (r ++ [a])) = (x ++ 44 :: commas (y :: r)) ++ 44 :: a
    rw [this]
    simp
def bytesOf (xs : List (List UInt8)) : List ByteArray := xs.map fun x => ⟨x.toArray⟩
theorem join_commas (xs : List (List UInt8)) : ∀ (k : Nat), k ≤ xs.length → joinTo (bytesOf xs) ⟨#[44]⟩ k = commas (xs.take k)
  | 0, _ => by simp [joinTo, commas]
  | k + 1, h => by
    have h1 := join_commas xs k (by omega)
    have h2 : (bytesOf xs).getD k ⟨#[]⟩ = ⟨xs[k].toArray⟩ := by simp [bytesOf, show k < xs.length by omega]
    rw [joinTo, h1, h2, List.take_succ_eq_append_getElem (by omega)]
    by_cases hk : 0 < k
    · rw [if_pos hk, commas_snoc _ _ (by intro e; have e2 := congrArg List.length e; rw [List.length_take, List.length_nil] at e2; omega)]
      simp
    · obtain rfl : k = 0 := by omega
      simp [commas]
theorem bytesOf_sum : ∀ (xs : List (List UInt8)), sumSizes (bytesOf xs) = sumLens xs
  | [] => rfl
  | a :: r => by
    have := bytesOf_sum r
    simp only [bytesOf, sumSizes, sumLens, List.map_cons, List.sum_cons] at this ⊢
    rw [this]
    rfl

theorem name_len {s : ByteArray} (h : isNameB s = true) : s.size ≤ 4 := by
  unfold isNameB at h
  simp only [Bool.and_eq_true, decide_eq_true_eq] at h
  exact h.2
theorem lab_sum : ∀ (ls : List ByteArray) (xs : List (List UInt8)), (∀ l ∈ ls, l.size ≤ 4) → sumLens (lab ls xs) ≤ sumLens xs + 5 * xs.length ∧ (lab ls xs).length ≤ xs.length
  | [], xs, _ => by simp [lab, sumLens]
  | _ :: _, [], _ => by simp [lab, sumLens]
  | l :: ls, x :: xs, h => by
    have h1 := lab_sum ls xs fun l hl => h l (by simp [hl])
    have h2 := h l (by simp)
    have h3 : l.data.toList.length = l.size := by simp
    simp only [lab, sumLens, List.map_cons, List.sum_cons, List.length_append, List.length_cons] at h1 ⊢
    omega
theorem lab_same : ∀ (ls : List ByteArray) (xs : List (List UInt8)), ls.length = xs.length → (lab ls xs).length = ls.length
  | [], _, _ => rfl
  | _ :: _, [], h => by simp at h
  | l :: ls, x :: xs, h => by simp [lab, lab_same ls xs (by simpa using h)]
theorem lab_get : ∀ (ls : List ByteArray) (xs : List (List UInt8)) (k : Nat) (h1 : k < ls.length) (h2 : k < xs.length) (h3 : k < (lab ls xs).length), (lab ls xs)[k] = ls[k].data.toList ++ 58 :: xs[k]
  | [], _, _, h, _, _ => by simp at h
  | _ :: _, [], _, _, h, _ => by simp at h
  | l :: ls, x :: xs, 0, _, _, _ => rfl
  | l :: ls, x :: xs, k + 1, h1, h2, h3 => lab_get ls xs k (by simpa using h1) (by simpa using h2) (by simpa [lab] using h3)
theorem txts_sum : ∀ (ts : List Ty), (∀ i, (h : i < ts.length) → (txt ts[i]).length + 6 ≤ 8 * sizeTy ts[i]) → sumLens (txts ts) + 6 * ts.length ≤ 8 * sizeTys ts ∧ (txts ts).length = ts.length
  | [], _ => by simp [txts, sumLens, sizeTys]
  | t :: r, h => by
    have h1 := txts_sum r fun i hi => h (i + 1) (by simpa using hi)
    have h2 := h 0 (by simp)
    simp only [txts, sumLens, sizeTys, List.map_cons, List.sum_cons, List.length_cons, List.getElem_cons_zero] at h1 h2 ⊢
    omega
theorem formTys_get {ts : List Ty} (h : formTys ts = true) (i : Nat) (hi : i < ts.length) : formTy ts[i] = true := formTys_mem h _ (List.getElem_mem hi)
theorem txt_len (t : Ty) : formTy t = true → (txt t).length + 6 ≤ 8 * sizeTy t := by
  induction t using Ty.ind with
  | h k ls ts ih =>
    intro hf
    rw [formTy, Bool.and_eq_true] at hf
    obtain ⟨h1, h2⟩ := txts_sum ts fun i hi => ih i hi (formTys_get hf.1 i hi)
    have hn := hf.2
    unfold nodeB at hn
    rw [txt, sizeTy]
    unfold nodeTxt
    split at hn
    · rename_i h12
      split
      · simp
        omega
      · split
        · simp
          omega
        · omega
    · rename_i h12
      rw [if_neg (by omega), if_neg (by omega)]
      split at hn
      · rename_i h34
        simp only [Bool.and_eq_true, decide_eq_true_eq] at hn
        have h3 := lab_sum ls (txts ts) fun l hl => name_len (labelsB_names hn.2 l hl)
        have h4 := commas_len (lab ls (txts ts))
        split
        · simp only [List.length_cons, List.length_append, List.length_nil]
          omega
        · rw [if_pos (by omega)]
          simp only [List.length_cons, List.length_append, List.length_nil]
          omega
      · rename_i h34
        rw [if_neg (by omega), if_neg (by omega)]
        have hh : (txts ts).headD [] = [] ∨ ((txts ts).headD []).length ≤ sumLens (txts ts) := by
          cases txts ts with
          | nil => exact .inl rfl
          | cons a r => exact .inr (by simp [sumLens])
        have hn1 : ts.length = 1 := by
          split at hn
          · simp only [Bool.and_eq_true, decide_eq_true_eq] at hn
            exact hn.2
          · cases hn
        simp only [List.length_cons, List.length_append, List.length_nil]
        rcases hh with hh | hh
        · rw [hh]
          simp
          omega
        · omega

end Go.Proofs.YtlmbnefoobameaaGreatDoor
end

section
namespace Go.Proofs.YtlmbnefoobameaaGreatDoor
open Go.RowKit

theorem infoByte : (Tryz.prog.info? 5).map (fun i => (i.zero, i.size, i.bytes)) = some (some (.int .u8 0), 1, 1) := by kernel_rfl

set_option maxHeartbeats 400000 in
set_option maxRecDepth 100000 in
theorem specJoin_any (A : Option Addr) (c : Nat) (ss : List ByteArray) (sep : ByteArray) (w : World) (hA : StrsAt w w.heap.size A ss) (hn : ss.length ≤ 1048576) (hsum : sumSizes ss ≤ 1048576) (hsep : sep.size ≤ 1048576) :
    Calls Tryz.prog 46 #[.slice A ss.length c, .string sep] w fun e w' => e = .returned (.string ⟨(joinTo ss sep ss.length).toArray⟩) ∧ Below w.heap.size w w' := by
  obtain ⟨i0, hi, hz0, hz1, hz2⟩ := info_parts infoByte
  go_enter Tryz.func46, Tryz.ntmps46
  go_wp2
  go_loopw [5, 6] (fun v i wr => ∃ k : Nat, k ≤ ss.length ∧ i = .int .i64 k ∧ wr.ownsRow w.heap.size 5 1 v (joinTo ss sep k).length (cellsOf (joinTo ss sep k)) ∧ Below w.heap.size w wr) (fun _ i _ => ss.length - (intOf i).toNat)
  case atStart => exact ⟨0, Nat.zero_le _, rfl, World.ownsRow_lit w #[] 0 (Nat.le_refl _) (Nat.zero_le _) rfl, (Below.refl _ _).alloc (Nat.le_refl _) _⟩
  case round =>
    obtain ⟨k, hk, rfl, hown, hb⟩ := hrel
    by_cases hlt : k < ss.length
    · obtain ⟨b, off, rfl, hbl, hcell⟩ := (hA.below hb) k hlt
      have hl := joinTo_len ss sep k hk
      have hl1 := sumSizes_take_le ss k
      have hl2 := size_le_sumSizes ss k hlt
      have hl3 : k * sep.size ≤ 1048576 * 1048576 := Nat.mul_le_mul (by omega) hsep
      have hJ : Hid (joinTo ss sep (k + 1) = joinTo ss sep k ++ (if 0 < k then sep.data.toList else []) ++ ss[k].data.toList) := by
        show joinTo ss sep (k + 1) = _
        rw [joinTo]
        simp [hlt]
      by_cases hk0 : k = 0
      · subst hk0
        rw [Nat.add_zero] at hcell
        go_wp2_with (at_builtin; go_must (refine Lib.wpList_append_own_string _ rfl (.tmp 19) (.tmp 23) _ _ rfl w.heap.size 5 i0 Tryz.underlying22 Tryz.underlying9 hi hz0 hz1 hz2 _ _ _ rfl hown ss[0] rfl (by unfold maxLen; omega) (by omega) hb.size ?_); intro v1 w1 hown1 hg1 _)
        have hb1 := hb.grown hg1 hb.size (fun q hq => (hown.lt q hq).1)
        clear hg1 hown
        go_roundw
        case rel => exact ⟨1, by omega, by go_num, by rw [show joinTo ss sep 1 = _ from hJ.out]; simpa [cellsOf_append, cellsOf_str, joinTo, cellsOf] using hown1, hb1⟩
        case measure => simp [intOf]; omega
      · go_wp2_with (at_builtin; first
          | (refine Lib.wpList_append_own_string _ rfl (.tmp 16) (.tmp 17) _ _ rfl w.heap.size 5 i0 Tryz.underlying22 Tryz.underlying9 hi hz0 hz1 hz2 _ _ _ rfl hown sep rfl (by unfold maxLen; omega) (by omega) hb.size ?_; intro v1 w1 hown1 hg1 _; have hb1 := hb.grown hg1 hb.size (fun q hq => (hown.lt q hq).1); have hcell1 := (hb1.cell (p := ⟨b, off + k, none⟩) hbl).trans ((hb.cell (p := ⟨b, off + k, none⟩) hbl).symm.trans hcell); clear hg1 hown hcell)
          | (refine Lib.wpList_append_own_string _ rfl (.tmp 19) (.tmp 23) _ _ rfl w.heap.size 5 i0 Tryz.underlying22 Tryz.underlying9 hi hz0 hz1 hz2 _ _ _ rfl hown1 ss[k] rfl (by unfold maxLen; omega) (by omega) hb1.size ?_; intro v2 w2 hown2 hg2 _; have hb2 := hb1.grown hg2 hb1.size (fun q hq => (hown1.lt q hq).1); clear hg2 hown1))
        go_roundw
        case rel => exact ⟨k + 1, by omega, by go_num, by rw [hJ.out, if_pos (by omega)]; simpa [cellsOf_append, cellsOf_str, Nat.add_assoc, size_list] using hown2, hb2⟩
        case measure => simp [intOf]; omega
    · have hk' : k = ss.length := by omega
      subst hk'
      have hconv := run_convert_owned (P := Tryz.prog) (dst := 9) Tryz.underlying22 Tryz.underlying5 Tryz.underlying9 hown
      go_wp2
      go_ret
      exact ⟨rfl, hb⟩

end Go.Proofs.YtlmbnefoobameaaGreatDoor
end

section
namespace Go.Proofs.YtlmbnefoobameaaGreatDoor
open Go.RowKit

/-- The string is handed back. -/
def StrIs (s : ByteArray) (w : World) (e : Ending) (w' : World) : Prop := e = .returned (.string s) ∧ Below w.heap.size w w'
/-- What the text is joined of. -/
def piecesOf (k : Int) (ls : List ByteArray) (ts : List Ty) : List (List UInt8) := if k = 5 then txts ts else lab ls (txts ts)
theorem bytesOf_len (xs : List (List UInt8)) : (bytesOf xs).length = xs.length := by simp [bytesOf]

theorem sizeTys_len : ∀ (ts : List Ty), ts.length ≤ sizeTys ts
  | [] => Nat.le_refl _
  | t :: r => by
    have h1 := sizeTys_len r
    have h2 := sizeTy_eq t
    rw [sizeTys, List.length_cons]
    omega

def TextOne (f : Nat) (t : Ty) : Prop := ∀ (v : Value) (w : World), TyAt w w.heap.size v t → formTy t = true → sizeTy t ≤ 1000 → Calls Tryz.prog f #[v] w (StrIs ⟨(txt t).toArray⟩ w)

theorem own_strings {w : World} {base n : Nat} {v : Value} {ss : List ByteArray} (h : w.ownsRow base 9 1 v n (strVals ss)) : ∃ A c, v = .slice A ss.length c ∧ StrsAt w w.heap.size A ss := by
  rcases RowStrs.of_own h with ⟨rfl, rfl⟩ | ⟨g, cap, rfl, h1, h2⟩
  · exact ⟨none, 0, rfl, StrsAt.empty _ _ _⟩
  · exact ⟨_, _, rfl, h2.at _ h2.lt⟩
theorem byte3 (a : UInt8) (x : List UInt8) (b : UInt8) : (⟨#[a]⟩ ++ ⟨x.toArray⟩ ++ ⟨#[b]⟩ : ByteArray) = ⟨(a :: (x ++ [b])).toArray⟩ := by
  apply ByteArray.ext
  rw [ByteArray.data_append, ByteArray.data_append]
  simp

end Go.Proofs.YtlmbnefoobameaaGreatDoor
end

section
namespace Go.Proofs.YtlmbnefoobameaaGreatDoor
open Go.RowKit
attribute [local go_sem ↓] Go.wp_at_zero Go.wp_at_succ

theorem StrsAt.grown {w w' : World} {D p : Nat} {A : Option Addr} {ss : List ByteArray} (h : StrsAt w D A ss) (hg : w.grownBy w' (some p)) (hne : ∀ q b off, A = some ⟨b, off, q⟩ → b ≠ p) : StrsAt w' D A ss := fun i hi => by
  obtain ⟨b, off, h1, h2, h3⟩ := h i hi
  exact ⟨b, off, h1, h2, (World.cell?_of_block (w := w) (hg.block b (block_lt_of_cell h3) (fun e => hne _ b off h1 (by injection e)))).trans h3⟩

theorem grown_drew {w w' : World} {row : Option Nat} (h : w.drew.grownBy w' row) : w.grownBy w' row := ⟨h.os, h.tape, h.output, h.size, h.block⟩
/-- A text of n bytes at most is handed back; only the cursor has turned. -/
def DrawnTxt (w : World) (B p n : Nat) (e : Ending) (w' : World) : Prop := (∃ x : ByteArray, e = .returned (.string x) ∧ x.size ≤ n) ∧ CurAt w' B p ∧ w.grownBy w' (some p)

set_option maxHeartbeats 4000000 in
theorem turned_any (p B D c : Nat) (A : Option Addr) (ss : List ByteArray) (s : ByteArray) (w : World) (hc : CurAt w B p) (hA : StrsAt w D A ss) (hne : ∀ q b off, A = some ⟨b, off, q⟩ → b ≠ p) (h0 : 0 < ss.length) (h1 : ss.length ≤ 1000000) (hz : ∀ x ∈ ss, x.size ≤ 8) (hs : s.size ≤ 1000000) :
    Calls Tryz.prog 26 #[.pointer (some ⟨p, 0, none⟩), .string s, .slice A ss.length c] w (DrawnTxt w B p (s.size + 8)) := by
  have hd := Lib.hid (l1Below_any p B ((s.size : Int) + 1) w hc (by omega) (by omega))
  have hwr : IntKind.i64.wrap ((s.size : Int) + 1) = (s.size : Int) + 1 := by rw [IntKind.wrap_i64]; omega
  have HZ := Lib.hid hz
  clear hc hz
  go_enter Tryz.func26, Tryz.ntmps26
  go_wp2_with fail
  refine hd.out.mono ?_
  rintro e w1 ⟨⟨x, rfl, hx0, hx1⟩, hc1, hg1⟩
  obtain ⟨k, rfl⟩ : ∃ k : Nat, x = k := ⟨x.toNat, by omega⟩
  have hA1 := hA.grown hg1 hne
  have hd2 := Lib.hid (l1Below_any p B 6 w1 hc1 (by omega) (by omega))
  clear hc1 hA hd
  go_wp2_with fail
  refine hd2.out.mono ?_
  rintro e w2 ⟨⟨y, rfl, hy0, hy1⟩, hc2, hg2⟩
  have hA2 := hA1.grown hg2 hne
  have hg12 := only_trans hg1 hg2
  have hk0 : (0 : Int) ≤ (k : Int) := by omega
  have hk1 : (k : Int) ≤ (s.size : Int) := by omega
  have hk2 : k ≤ s.size := by omega
  clear hA1 hd2 hg1 hg2
  by_cases y0 : y = 0
  · subst y0
    have HP := Lib.hid (l1Pick_any p B D c A ss w2.drew (CurAt.belowP hc2 (Below.refl w2.heap.size w2).drew hc2.lt) hA2 hne h0 h1)
    have HG := Lib.hid hg12
    clear hc2 hA2 hne hg12
    go_wp2
    go_region_law (first | (go_simp; go_at_call 31; (with_reducible refine HP.out.mono ?_); rintro e w4 ⟨⟨z, rfl, hzm⟩, hc4, hg4'⟩; have hg4 := only_trans HG.out (grown_drew hg4'); clear hg4'; have hzs := HZ.out z hzm; have hj1 : ¬ 9223372036854775807 < k + z.size := (by omega); have hj2 : ¬ 9223372036854775807 < k + z.size + (s.size - k) := (by omega); clear hzm))
    all_goals
      go_wp2
      go_ret
      exact ⟨⟨_, rfl, by rw [ByteArray.size_append, ByteArray.size_append, ByteArray.size_extract, ByteArray.size_extract]; omega⟩, hc4, hg4⟩
  · by_cases y1 : y = 1
    · subst y1
      go_wp2
      go_ret
      exact ⟨⟨_, rfl, by rw [ByteArray.size_extract]; omega⟩, hc2, hg12⟩
    · have i0 : (y == 0) = false := by rw [beq_eq_false_iff_ne]; exact y0
      have i1 : (y == 1) = false := by rw [beq_eq_false_iff_ne]; exact y1
      go_wp2
      go_ret
      exact ⟨⟨s, rfl, by omega⟩, hc2, hg12⟩

theorem format_len (t : Ty) : (formatB t).size ≤ 240 := by
  unfold formatB
  split
  · rename_i h
    unfold validB at h
    simp only [Bool.and_eq_true, decide_eq_true_eq] at h
    have h1 := txt_len t h.2
    show (txt t).toArray.size ≤ 240
    simp
    omega
  · exact Nat.zero_le _

/-- A text is drawn. -/
def GivesTxt (w : World) (e : Ending) (w' : World) : Prop := (∃ x : ByteArray, e = .returned (.string x) ∧ x.size ≤ 1000) ∧ Below w.heap.size w w'
def signs4 : List ByteArray := [⟨#[60]⟩, ⟨#[93]⟩, ⟨#[123]⟩, ⟨#[58]⟩, ⟨#[97]⟩, ⟨#[73]⟩, ⟨#[44]⟩]
theorem turned4 (p B : Nat) (s : ByteArray) (W : World) (h : CurAt W B p) (hs : s.size ≤ 240) :
    Calls Tryz.prog 26 #[.pointer (some ⟨p, 0, none⟩), .string s, .slice (some ⟨W.heap.size, 0, none⟩) 7 7] (W.alloc (.cells #[.string ⟨#[60]⟩, .string ⟨#[93]⟩, .string ⟨#[123]⟩, .string ⟨#[58]⟩, .string ⟨#[97]⟩, .string ⟨#[73]⟩, .string ⟨#[44]⟩] 9)) (DrawnTxt (W.alloc (.cells #[.string ⟨#[60]⟩, .string ⟨#[93]⟩, .string ⟨#[123]⟩, .string ⟨#[58]⟩, .string ⟨#[97]⟩, .string ⟨#[73]⟩, .string ⟨#[44]⟩] 9)) B p (s.size + 8)) :=
  turned_any p B (W.heap.size + 1) 7 (some ⟨W.heap.size, 0, none⟩) signs4 s _ (CurAt.belowP h ((Below.refl W.heap.size W).alloc (Nat.le_refl _) _) h.lt) (StrsAt.of_whole (t := 9) (Whole1.new W _ _) _ (by omega)) (fun q b off e => by cases e; have := h.lt; omega) (by decide) (by decide) (by decide) (by omega)

end Go.Proofs.YtlmbnefoobameaaGreatDoor
end

section
namespace Go.Proofs.YtlmbnefoobameaaGreatDoor
open Go.RowKit

inductive Va where
  | mk (k n : Int) (nm : ByteArray) (ls : List ByteArray) (ts : List Va)

def Va.kind : Va → Int | .mk k _ _ _ _ => k
def Va.num : Va → Int | .mk _ n _ _ _ => n
def Va.name : Va → ByteArray | .mk _ _ nm _ _ => nm
def Va.labels : Va → List ByteArray | .mk _ _ _ ls _ => ls
def Va.args : Va → List Va | .mk _ _ _ _ ts => ts

theorem Va.ind {P : Va → Prop} (h : ∀ k n nm ls (ts : List Va), (∀ i, (hi : i < ts.length) → P ts[i]) → P (.mk k n nm ls ts)) (t : Va) : P t :=
  Va.rec (motive_1 := P) (motive_2 := fun ts => ∀ i, (hi : i < ts.length) → P ts[i]) h (fun i hi => absurd hi (Nat.not_lt_zero i))
    (fun a r ha hr i hi => match i, hi with | 0, _ => ha | i + 1, hi => hr i (Nat.lt_of_succ_lt_succ hi)) t

/-- The value reads as the tree; all that is read lies below block B. -/
inductive VaAt (w : World) (B : Nat) : Value → Va → Prop where
  | mk {k n : Int} {nm : ByteArray} {ls : List ByteArray} {ts : List Va} {L A : Option Addr} {lc ac : Nat} (vs : Nat → Value) (hnm : nm.size ≤ maxLen) (hn : ls.length ≤ maxLen) (hz : ∀ i, (h : i < ls.length) → ls[i].size ≤ maxLen) (hm : ts.length ≤ maxLen) (hls : StrsAt w B L ls) (hes : ElemsAt 5 w B A ts.length vs)
      (hks : ∀ i, (hi : i < ts.length) → VaAt w B (vs i) ts[i]) : VaAt w B (.agg #[.int .i64 k, .int .i64 n, .string nm, .slice L ls.length lc, .slice A ts.length ac]) (.mk k n nm ls ts)

theorem VaAt.keep {w w' : World} {B : Nat} {v : Value} {t : Va} (h : VaAt w B v t) (hk : ∀ p : Addr, p.block < B → w'.cell? p = w.cell? p) : VaAt w' B v t := by
  induction h with
  | mk vs hnm hn hz hm hls hes _ ih => exact .mk vs hnm hn hz hm (hls.keep hk) (hes.keep hk) ih
theorem VaAt.more {w : World} {B B' : Nat} {v : Value} {t : Va} (h : VaAt w B v t) (hB : B ≤ B') : VaAt w B' v t := by
  induction h with
  | mk vs hnm hn hz hm hls hes _ ih => exact .mk vs hnm hn hz hm (hls.more hB) (hes.more hB) ih
theorem VaAt.lift {w w' : World} {B : Nat} {v : Value} {t : Va} (h : VaAt w B v t) (hb : Below B w w') : VaAt w' B v t := h.keep fun _ hp => hb.cell hp
theorem VaAt.up {w w' : World} {v : Value} {t : Va} (h : VaAt w w.heap.size v t) (hb : Below w.heap.size w w') : VaAt w' w'.heap.size v t := (h.lift hb).more hb.size

/-- The slice (A, length, c) reads as the list of trees. -/
def VasAt (w : World) (B : Nat) (A : Option Addr) (ts : List Va) : Prop := ts.length ≤ maxLen ∧ ∃ vs : Nat → Value, ElemsAt 5 w B A ts.length vs ∧ ∀ i, (hi : i < ts.length) → VaAt w B (vs i) ts[i]
theorem VasAt.keep {w w' : World} {B : Nat} {A : Option Addr} {ts : List Va} (h : VasAt w B A ts) (hk : ∀ p : Addr, p.block < B → w'.cell? p = w.cell? p) : VasAt w' B A ts := by
  obtain ⟨h0, vs, h1, h2⟩ := h
  exact ⟨h0, vs, h1.keep hk, fun i hi => (h2 i hi).keep hk⟩
theorem VasAt.more {w : World} {B B' : Nat} {A : Option Addr} {ts : List Va} (h : VasAt w B A ts) (hB : B ≤ B') : VasAt w B' A ts := by
  obtain ⟨h0, vs, h1, h2⟩ := h
  exact ⟨h0, vs, h1.more hB, fun i hi => (h2 i hi).more hB⟩
theorem VasAt.below {w w' : World} {B : Nat} {A : Option Addr} {ts : List Va} (h : VasAt w B A ts) (hb : Below B w w') : VasAt w' B A ts := h.keep fun _ hp => hb.cell hp
theorem VasAt.up {w w' : World} {A : Option Addr} {ts : List Va} (h : VasAt w w.heap.size A ts) (hb : Below w.heap.size w w') : VasAt w' w'.heap.size A ts := (h.below hb).more hb.size

/-- What a value that reads as a tree looks like. -/
theorem VaAt.open {w : World} {B : Nat} {v : Value} {t : Va} (h : VaAt w B v t) : ∃ L lc A ac, v = .agg #[.int .i64 t.kind, .int .i64 t.num, .string t.name, .slice L t.labels.length lc, .slice A t.args.length ac] ∧ t.name.size ≤ maxLen ∧ t.labels.length ≤ maxLen ∧ (∀ i, (h : i < t.labels.length) → t.labels[i].size ≤ maxLen) ∧ StrsAt w B L t.labels ∧ VasAt w B A t.args := by
  cases h with
  | mk vs hnm hn hz hm hls hes hks => exact ⟨_, _, _, _, rfl, hnm, hn, hz, hls, hm, vs, hes, hks⟩
theorem VaAt.of {w : World} {B lc ac : Nat} {L A : Option Addr} {t : Va} (hnm : t.name.size ≤ maxLen) (hn : t.labels.length ≤ maxLen) (hz : ∀ i, (h : i < t.labels.length) → t.labels[i].size ≤ maxLen) (hl : StrsAt w B L t.labels) (ha : VasAt w B A t.args) : VaAt w B (.agg #[.int .i64 t.kind, .int .i64 t.num, .string t.name, .slice L t.labels.length lc, .slice A t.args.length ac]) t := by
  obtain ⟨h0, vs, h1, h2⟩ := ha
  cases t
  exact .mk vs hnm hn hz h0 hl h1 h2

/-- Element i of a list of trees: its three cells. -/
theorem VasAt.elem {w : World} {B : Nat} {A : Option Addr} {ts : List Va} (h : VasAt w B A ts) (i : Nat) (hi : i < ts.length) :
    ∃ b off L lc A' ac, A = some ⟨b, off, none⟩ ∧ b < B ∧ w.cell? ⟨b, off + i * 5, none⟩ = some (.int .i64 ts[i].kind) ∧ w.cell? ⟨b, off + i * 5 + 1, none⟩ = some (.int .i64 ts[i].num) ∧ w.cell? ⟨b, off + i * 5 + 2, none⟩ = some (.string ts[i].name) ∧
      w.cell? ⟨b, off + i * 5 + 3, none⟩ = some (.slice L ts[i].labels.length lc) ∧ w.cell? ⟨b, off + i * 5 + 4, none⟩ = some (.slice A' ts[i].args.length ac) ∧
      VaAt w B (.agg #[.int .i64 ts[i].kind, .int .i64 ts[i].num, .string ts[i].name, .slice L ts[i].labels.length lc, .slice A' ts[i].args.length ac]) ts[i] := by
  obtain ⟨h0, vs, h1, h2⟩ := h
  obtain ⟨b, off, e, hb, hc⟩ := h1 i hi
  have ht := h2 i hi
  obtain ⟨L, lc, A', ac, hv, _⟩ := ht.open
  rw [hv] at hc ht
  exact ⟨b, off, L, lc, A', ac, e, hb, hc 0 (by omega), hc 1 (by omega), hc 2 (by omega), hc 3 (by omega), hc 4 (by omega), ht⟩

mutual
/-- What the law counts of a tree: its labels, their letters, its parts. -/
def szVa : Va → Nat | .mk _ _ nm ls ts => nm.size + (ls.length + sumSizes ls) + szVas ts
def szVas : List Va → Nat | [] => 0 | t :: r => 1 + szVa t + szVas r
end
theorem szVas_append : ∀ (a b : List Va), szVas (a ++ b) = szVas a + szVas b
  | [], b => by simp [szVas]
  | t :: a, b => by
    rw [List.cons_append, szVas, szVas, szVas_append a b]
    omega
theorem szVas_take (ts : List Va) (k : Nat) (h : k < ts.length) : szVas (ts.take (k + 1)) = szVas (ts.take k) + 1 + szVa ts[k] := by
  rw [List.take_succ_eq_append_getElem h, szVas_append, szVas, szVas]
  omega
theorem szVas_len : ∀ (ts : List Va), ts.length ≤ szVas ts
  | [] => Nat.le_refl _
  | t :: r => by
    have := szVas_len r
    rw [szVas, List.length_cons]
    omega
theorem szVas_le (ts : List Va) (k : Nat) : szVas (ts.take k) + (ts.length - k) ≤ szVas ts := by
  have h := szVas_append (ts.take k) (ts.drop k)
  have h2 := szVas_len (ts.drop k)
  rw [List.take_append_drop] at h
  rw [List.length_drop] at h2
  omega
theorem szVa_part (ts : List Va) (k : Nat) (h : k < ts.length) : szVa ts[k] + 1 ≤ szVas ts := by
  have h1 := szVas_take ts k h
  have h2 := szVas_le ts (k + 1)
  omega
theorem szVa_eq (t : Va) : szVa t = t.name.size + (t.labels.length + sumSizes t.labels) + szVas t.args := by
  cases t
  rw [szVa]
  rfl

end Go.Proofs.YtlmbnefoobameaaGreatDoor

namespace Go.Proofs.YtlmbnefoobameaaGreatDoor
open Go.RowKit

/-- The value reads as the tree; its blocks are all in S, no two of its slices share one. -/
inductive VaIn (w : World) : (Nat → Prop) → Value → Va → Prop where
  | mk {S : Nat → Prop} {k n : Int} {nm : ByteArray} {ls : List ByteArray} {ts : List Va} {L A : Option Addr} {lc ac : Nat} (gl ga : Nat) (vs : Nat → Value) (Ss : Nat → Nat → Prop)
      (hnm : nm.size ≤ maxLen) (hn : ls.length ≤ maxLen) (hz : ∀ i, (h : i < ls.length) → ls[i].size ≤ maxLen) (hm : ts.length ≤ maxLen)
      (hls : ls = [] ∨ L = some ⟨gl, 0, none⟩ ∧ S gl ∧ RowStrs w gl ls) (hes : ts = [] ∨ A = some ⟨ga, 0, none⟩ ∧ S ga ∧ ElemRow 5 95 w ga ts.length vs) (hne : gl ≠ ga)
      (hsub : ∀ i, i < ts.length → ∀ b, Ss i b → S b ∧ b ≠ gl ∧ b ≠ ga) (hdis : ∀ i j, i < ts.length → j < ts.length → i ≠ j → ∀ b, Ss i b → ¬ Ss j b)
      (hks : ∀ i, (hi : i < ts.length) → VaIn w (Ss i) (vs i) ts[i]) : VaIn w S (.agg #[.int .i64 k, .int .i64 n, .string nm, .slice L ls.length lc, .slice A ts.length ac]) (.mk k n nm ls ts)

theorem VaIn.keep {w w' : World} {S : Nat → Prop} {v : Value} {t : Va} (h : VaIn w S v t) (hk : ∀ b, S b → b < w.heap.size → w'.heap[b]? = w.heap[b]?) : VaIn w' S v t := by
  induction h with
  | mk gl ga vs Ss hnm hn hz hm hls hes hne hsub hdis _ ih =>
    refine .mk gl ga vs Ss hnm hn hz hm (hls.imp id fun ⟨h1, h2, h3⟩ => ⟨h1, h2, h3.same (hk _ h2 h3.lt)⟩) (hes.imp id fun ⟨h1, h2, h3⟩ => ⟨h1, h2, h3.keep (hk _ h2 h3.lt)⟩) hne hsub hdis fun i hi => ih i hi fun b hb => hk b (hsub i hi b hb).1
theorem VaIn.wide {w : World} {S S' : Nat → Prop} {v : Value} {t : Va} (h : VaIn w S v t) (hS : ∀ b, S b → S' b) : VaIn w S' v t := by
  cases h with
  | mk gl ga vs Ss hnm hn hz hm hls hes hne hsub hdis hks =>
    exact .mk gl ga vs Ss hnm hn hz hm (hls.imp id fun ⟨h1, h2, h3⟩ => ⟨h1, hS _ h2, h3⟩) (hes.imp id fun ⟨h1, h2, h3⟩ => ⟨h1, hS _ h2, h3⟩) hne (fun i hi b hb => ⟨hS _ (hsub i hi b hb).1, (hsub i hi b hb).2⟩) hdis hks
theorem VaIn.at {w : World} {S : Nat → Prop} {v : Value} {t : Va} (h : VaIn w S v t) (B : Nat) (hB : ∀ b, S b → b < w.heap.size → b < B) : VaAt w B v t := by
  induction h with
  | @mk S k n nm ls ts L A lc ac gl ga vs Ss hnm hn hz hm hls hes hne hsub hdis _ ih =>
    refine .mk vs hnm hn hz hm ?_ ?_ fun i hi => ih i hi fun b hb => hB b (hsub i hi b hb).1
    · rcases hls with rfl | ⟨rfl, h2, h3⟩
      · exact StrsAt.empty _ _ _
      · exact h3.at _ (hB _ h2 h3.lt)
    · rcases hes with rfl | ⟨rfl, h2, h3⟩
      · exact fun i hi => absurd hi (by simp)
      · exact h3.at _ (hB _ h2 h3.lt)
theorem VaIn.here {w : World} {S : Nat → Prop} {v : Value} {t : Va} (h : VaIn w S v t) : VaAt w w.heap.size v t := h.at _ fun _ _ h => h

/-- The slice (A, length, c) reads as the list of trees; its blocks are all in S. -/
def VasIn (w : World) (S : Nat → Prop) (A : Option Addr) (ts : List Va) : Prop :=
  ts.length ≤ maxLen ∧ ∃ (ga : Nat) (vs : Nat → Value) (Ss : Nat → Nat → Prop), (ts = [] ∨ A = some ⟨ga, 0, none⟩ ∧ S ga ∧ ElemRow 5 95 w ga ts.length vs) ∧
    (∀ i, i < ts.length → ∀ b, Ss i b → S b ∧ b ≠ ga) ∧ (∀ i j, i < ts.length → j < ts.length → i ≠ j → ∀ b, Ss i b → ¬ Ss j b) ∧ ∀ i, (hi : i < ts.length) → VaIn w (Ss i) (vs i) ts[i]
theorem VasIn.at {w : World} {S : Nat → Prop} {A : Option Addr} {ts : List Va} (h : VasIn w S A ts) (B : Nat) (hB : ∀ b, S b → b < w.heap.size → b < B) : VasAt w B A ts := by
  obtain ⟨h0, ga, vs, Ss, h1, h2, h3, h4⟩ := h
  refine ⟨h0, vs, ?_, fun i hi => (h4 i hi).at B fun b hb => hB b (h2 i hi b hb).1⟩
  rcases h1 with rfl | ⟨rfl, h5, h6⟩
  · exact fun i hi => absurd hi (by simp)
  · exact h6.at _ (hB _ h5 h6.lt)
theorem VasIn.here {w : World} {S : Nat → Prop} {A : Option Addr} {ts : List Va} (h : VasIn w S A ts) : VasAt w w.heap.size A ts := h.at _ fun _ _ h => h
theorem VasIn.keep {w w' : World} {S : Nat → Prop} {A : Option Addr} {ts : List Va} (h : VasIn w S A ts) (hk : ∀ b, S b → b < w.heap.size → w'.heap[b]? = w.heap[b]?) : VasIn w' S A ts := by
  obtain ⟨h0, ga, vs, Ss, h1, h2, h3, h4⟩ := h
  exact ⟨h0, ga, vs, Ss, h1.imp id fun ⟨a, b, c⟩ => ⟨a, b, c.keep (hk _ b c.lt)⟩, h2, h3, fun i hi => (h4 i hi).keep fun b hb => hk b (h2 i hi b hb).1⟩

/-- A tree of labels and parts that lie apart. -/
theorem VaIn.of {w : World} {S Sa : Nat → Prop} {L A : Option Addr} {lc ac gl : Nat} {t : Va} (hnm : t.name.size ≤ maxLen) (hn : t.labels.length ≤ maxLen) (hz : ∀ i, (h : i < t.labels.length) → t.labels[i].size ≤ maxLen)
    (hl : t.labels = [] ∨ L = some ⟨gl, 0, none⟩ ∧ S gl ∧ RowStrs w gl t.labels) (ha : VasIn w Sa A t.args) (hs : ∀ b, Sa b → S b ∧ b ≠ gl) :
    VaIn w S (.agg #[.int .i64 t.kind, .int .i64 t.num, .string t.name, .slice L t.labels.length lc, .slice A t.args.length ac]) t := by
  obtain ⟨h0, ga, vs, Ss, h1, h2, h3, h4⟩ := ha
  cases t with
  | mk k n nm ls ts =>
    simp only [Va.labels, Va.args, Va.kind, Va.num, Va.name] at *
    rcases h1 with rfl | ⟨rfl, h5, h6⟩
    · exact .mk gl (gl + 1) vs Ss hnm hn hz h0 hl (.inl rfl) (by omega) (fun i hi => absurd hi (by simp)) (fun i _ hi => absurd hi (by simp)) h4
    · exact .mk gl ga vs Ss hnm hn hz h0 hl (.inr ⟨rfl, (hs _ h5).1, h6⟩) (fun e => (hs _ h5).2 e.symm) (fun i hi b hb => ⟨(hs _ (h2 i hi b hb).1).1, (hs _ (h2 i hi b hb).1).2, (h2 i hi b hb).2⟩) h3 h4
theorem VaIn.open {w : World} {S : Nat → Prop} {v : Value} {t : Va} (h : VaIn w S v t) :
    ∃ L lc A ac gl, v = .agg #[.int .i64 t.kind, .int .i64 t.num, .string t.name, .slice L t.labels.length lc, .slice A t.args.length ac] ∧ t.name.size ≤ maxLen ∧ t.labels.length ≤ maxLen ∧ (∀ i, (h : i < t.labels.length) → t.labels[i].size ≤ maxLen) ∧
      (t.labels = [] ∨ L = some ⟨gl, 0, none⟩ ∧ S gl ∧ RowStrs w gl t.labels) ∧ VasIn w (fun b => S b ∧ b ≠ gl) A t.args := by
  cases h with
  | mk gl ga vs Ss hnm hn hz hm hls hes hne hsub hdis hks =>
    exact ⟨_, _, _, _, gl, rfl, hnm, hn, hz, hls, hm, ga, vs, Ss, hes.imp id fun ⟨a, b, c⟩ => ⟨a, ⟨b, fun e => hne e.symm⟩, c⟩, fun i hi b hb => ⟨⟨(hsub i hi b hb).1, (hsub i hi b hb).2.1⟩, (hsub i hi b hb).2.2⟩, hdis, hks⟩

end Go.Proofs.YtlmbnefoobameaaGreatDoor
end

section
namespace Go.Proofs.YtlmbnefoobameaaGreatDoor
open Go.RowKit

end Go.Proofs.YtlmbnefoobameaaGreatDoor
end

section
namespace Go.Proofs.YtlmbnefoobameaaGreatDoor
open Go.RowKit

/-- A new tree is handed back. -/
def NewVa (w : World) (t : Va) (e : Ending) (w' : World) : Prop := ∃ v, e = .returned v ∧ VaIn w' (Span w.heap.size w'.heap.size) v t ∧ Below w.heap.size w w'
/-- A new list of trees is handed back. -/
def NewVas (w : World) (ts : List Va) (e : Ending) (w' : World) : Prop := ∃ g c, e = .returned (.slice (some ⟨g, 0, none⟩) ts.length c) ∧ w.heap.size ≤ g ∧ VasIn w' (Span w.heap.size w'.heap.size) (some ⟨g, 0, none⟩) ts ∧ Below w.heap.size w w'

theorem infoValue : (Tryz.prog.info? 95).map (fun i => (i.zero, i.size, i.bytes)) = some (some (.agg #[.int .i64 0, .int .i64 0, .string ⟨#[]⟩, .slice none 0 0, .slice none 0 0]), 5, 80) := by kernel_rfl

/-- Row g of n elements; those below k are made, each in blocks of its own. -/
def VFilling (w : World) (lo g n k : Nat) (ts : List Va) : Prop :=
  ∃ (cs : Array Value) (vs : Nat → Value) (bd : Nat → Nat), Whole1 w g 95 cs ∧ cs.size = n * 5 ∧ (∀ i, i < k → ∀ j, j < 5 → (partAt (vs i) j).isSome = true ∧ cs[i * 5 + j]? = partAt (vs i) j) ∧
    lo ≤ g ∧ g < bd 0 ∧ (∀ i, i < k → bd i ≤ bd (i + 1)) ∧ bd k ≤ w.heap.size ∧ ∀ i, (hi : i < ts.length) → i < k → VaIn w (Span (bd i) (bd (i + 1))) (vs i) ts[i]

theorem VFilling.done {w : World} {lo g : Nat} {ts : List Va} (h : VFilling w lo g ts.length ts.length ts) (hm : ts.length ≤ maxLen) : VasIn w (Span lo w.heap.size) (some ⟨g, 0, none⟩) ts := by
  obtain ⟨cs, vs, bd, h1, h2, h3, h4, h5, h6, h7, h8⟩ := h
  refine ⟨hm, g, vs, fun i => Span (bd i) (bd (i + 1)), .inr ⟨rfl, ⟨h4, h1.lt⟩, cs, h1, h3⟩, fun i hi b hb => ?_, fun i j hi hj hne b hb hb' => ?_, fun i hi => h8 i hi hi⟩
  · have a := bd_mono bd _ h6 0 i (by omega) (by omega)
    have c := bd_mono bd _ h6 (i + 1) ts.length (by omega) (Nat.le_refl _)
    have := hb.1
    have := hb.2
    exact ⟨⟨by omega, by omega⟩, by omega⟩
  · have := hb.1
    have := hb.2
    have := hb'.1
    have := hb'.2
    rcases Nat.lt_or_gt_of_ne hne with hlt | hlt
    · have a := bd_mono bd _ h6 (i + 1) j (by omega) (by omega)
      omega
    · have a := bd_mono bd _ h6 (j + 1) i (by omega) (by omega)
      omega
theorem VFilling.below {w w' : World} {lo g n k : Nat} {ts : List Va} (h : VFilling w lo g n k ts) (hb : Below w.heap.size w w') : VFilling w' lo g n k ts := by
  obtain ⟨cs, vs, bd, h1, h2, h3, h4, h5, h6, h7, h8⟩ := h
  refine ⟨cs, vs, bd, h1.below hb h1.lt, h2, h3, h4, h5, h6, Nat.le_trans h7 hb.size, fun i hi hk => (h8 i hi hk).keep fun b hB _ => hb.block b ?_⟩
  have := bd_mono bd k h6 (i + 1) k (by omega) (Nat.le_refl _)
  have := hB.2
  omega
/-- The next element is stored. -/
theorem VFilling.step {w w' : World} {lo g n k : Nat} {ts : List Va} {a b c d e : Value} (h : VFilling w lo g n k ts) (hb : Below w.heap.size w w') (hk : k < n) (hkt : k < ts.length) (hv : VaIn w' (Span w.heap.size w'.heap.size) (.agg #[a, b, c, d, e]) ts[k]) :
    VFilling (((((w'.setCell ⟨g, k * 5, none⟩ a).setCell ⟨g, k * 5 + 1, none⟩ b).setCell ⟨g, k * 5 + 2, none⟩ c).setCell ⟨g, k * 5 + 3, none⟩ d).setCell ⟨g, k * 5 + 4, none⟩ e) lo g n (k + 1) ts := by
  obtain ⟨cs, vs, bd, h1, h2, h3, h4, h5, h6, h7, h8⟩ := h
  have hlt := h1.lt
  have hw := (((((h1.below hb hlt).set (k * 5) a).set (k * 5 + 1) b).set (k * 5 + 2) c).set (k * 5 + 3) d).set (k * 5 + 4) e
  have hsz := hb.size
  have hk' : ∀ q, q ≠ g → (((((w'.setCell ⟨g, k * 5, none⟩ a).setCell ⟨g, k * 5 + 1, none⟩ b).setCell ⟨g, k * 5 + 2, none⟩ c).setCell ⟨g, k * 5 + 3, none⟩ d).setCell ⟨g, k * 5 + 4, none⟩ e).heap[q]? = w'.heap[q]? := fun q hq => by
    rw [Below.heap_setCell _ _ _ _ hq, Below.heap_setCell _ _ _ _ hq, Below.heap_setCell _ _ _ _ hq, Below.heap_setCell _ _ _ _ hq, Below.heap_setCell _ _ _ _ hq]
  have hS : (((((w'.setCell ⟨g, k * 5, none⟩ a).setCell ⟨g, k * 5 + 1, none⟩ b).setCell ⟨g, k * 5 + 2, none⟩ c).setCell ⟨g, k * 5 + 3, none⟩ d).setCell ⟨g, k * 5 + 4, none⟩ e).heap.size = w'.heap.size := by simp [World.setCell]
  generalize ((((w'.setCell ⟨g, k * 5, none⟩ a).setCell ⟨g, k * 5 + 1, none⟩ b).setCell ⟨g, k * 5 + 2, none⟩ c).setCell ⟨g, k * 5 + 3, none⟩ d).setCell ⟨g, k * 5 + 4, none⟩ e = W at *
  have hg0 : ∀ i, i ≤ k → g < bd i := fun i hi => Nat.lt_of_lt_of_le h5 (bd_mono bd k h6 0 i (by omega) hi)
  refine ⟨_, fun j => if j = k then .agg #[a, b, c, d, e] else vs j, fun j => if j ≤ k then bd j else w'.heap.size, hw, by simp [h2], fun i hi j hj => ?_, h4, by simpa using h5, fun i hi => ?_, ?_, fun i hi hik => ?_⟩
  · dsimp only
    have hb3 : k * 5 + 4 < cs.size := by omega
    by_cases ek : i = k
    · subst ek
      rw [if_pos rfl]
      simp only [Array.getElem?_setIfInBounds, Array.size_setIfInBounds]
      have : j = 0 ∨ j = 1 ∨ j = 2 ∨ j = 3 ∨ j = 4 := by omega
      rcases this with rfl | rfl | rfl | rfl | rfl
      · simp [partAt]; omega
      · simp [partAt]; omega
      · simp [partAt]; omega
      · simp [partAt]; omega
      · simp [partAt]; omega
    · rw [if_neg ek]
      have hh := h3 i (by omega) j hj
      refine ⟨hh.1, ?_⟩
      rw [← hh.2]
      simp only [Array.getElem?_setIfInBounds, Array.size_setIfInBounds]
      rw [if_neg (by omega), if_neg (by omega), if_neg (by omega), if_neg (by omega), if_neg (by omega)]
  · dsimp only
    by_cases ek : i = k
    · subst ek
      rw [if_pos (Nat.le_refl _), if_neg (by omega)]
      omega
    · rw [if_pos (by omega), if_pos (by omega)]
      exact h6 i (by omega)
  · dsimp only
    rw [if_neg (by omega), hS]
    exact Nat.le_refl _
  · dsimp only
    by_cases ek : i = k
    · subst ek
      rw [if_pos rfl, if_pos (Nat.le_refl _), if_neg (by omega)]
      refine (hv.wide fun q hq => ⟨by have := hq.1; omega, hq.2⟩).keep fun q hq _ => hk' q ?_
      have := hq.1
      have := hg0 i (Nat.le_refl _)
      omega
    · rw [if_neg ek, if_pos (by omega), if_pos (by omega)]
      refine (h8 i hi (by omega)).keep fun q hq _ => ?_
      have e1 := hq.1
      have e2 := hq.2
      have e3 := hg0 i (by omega)
      have e4 := bd_mono bd k h6 (i + 1) k (by omega) (Nat.le_refl _)
      rw [hk' q (by omega)]
      exact hb.block q (by omega)

theorem VFilling.cells {w : World} {lo g n k : Nat} {ts : List Va} (h : VFilling w lo g n k ts) (i : Nat) (hi : i < n) : ∃ x y z u v, w.cell? ⟨g, i * 5, none⟩ = some x ∧ w.cell? ⟨g, i * 5 + 1, none⟩ = some y ∧ w.cell? ⟨g, i * 5 + 2, none⟩ = some z ∧ w.cell? ⟨g, i * 5 + 3, none⟩ = some u ∧ w.cell? ⟨g, i * 5 + 4, none⟩ = some v ∧
    w.frozen? ⟨g, i * 5, none⟩ = false ∧ w.frozen? ⟨g, i * 5 + 1, none⟩ = false ∧ w.frozen? ⟨g, i * 5 + 2, none⟩ = false ∧ w.frozen? ⟨g, i * 5 + 3, none⟩ = false ∧ w.frozen? ⟨g, i * 5 + 4, none⟩ = false := by
  obtain ⟨cs, vs, bd, h1, h2, _⟩ := h
  refine ⟨cs[i * 5]'(by omega), cs[i * 5 + 1]'(by omega), cs[i * 5 + 2]'(by omega), cs[i * 5 + 3]'(by omega), cs[i * 5 + 4]'(by omega), ?_, ?_, ?_, ?_, ?_, h1.free _, h1.free _, h1.free _, h1.free _, h1.free _⟩
  all_goals rw [h1.cell, Array.getElem?_eq_getElem]
theorem VFilling.start (w : World) (cs : Array Value) (n : Nat) (ts : List Va) (hs : cs.size = n * 5) : VFilling (w.alloc (.cells cs 95)) w.heap.size w.heap.size n 0 ts :=
  ⟨cs, fun _ => .bool false, fun _ => w.heap.size + 1, Whole1.new _ _ _, hs, fun i hi => absurd hi (by omega), Nat.le_refl _, Nat.lt_succ_self _, fun i hi => absurd hi (by omega), by simp, fun i _ hi => absurd hi (by omega)⟩

end Go.Proofs.YtlmbnefoobameaaGreatDoor
end

section
namespace Go.Proofs.YtlmbnefoobameaaGreatDoor
open Go.RowKit

end Go.Proofs.YtlmbnefoobameaaGreatDoor
end

section
namespace Go.Proofs.YtlmbnefoobameaaGreatDoor
open Go.RowKit

mutual
/-- The number of nodes. -/
def sizeVa : Va → Nat | .mk _ _ _ _ ts => 1 + sizeVas ts
def sizeVas : List Va → Nat | [] => 0 | t :: r => sizeVa t + sizeVas r
end
theorem sizeVa_eq (t : Va) : sizeVa t = 1 + sizeVas t.args := by cases t; rw [sizeVa]; rfl
theorem sizeVas_append : ∀ (a b : List Va), sizeVas (a ++ b) = sizeVas a + sizeVas b
  | [], b => by simp [sizeVas]
  | t :: a, b => by
    rw [List.cons_append, sizeVas, sizeVas, sizeVas_append a b]
    omega
theorem sizeVas_take (ts : List Va) (k : Nat) (h : k < ts.length) : sizeVas (ts.take (k + 1)) = sizeVas (ts.take k) + sizeVa ts[k] := by
  rw [List.take_succ_eq_append_getElem h, sizeVas_append, sizeVas, sizeVas]
  omega
theorem sizeVas_le (ts : List Va) (k : Nat) : sizeVas (ts.take k) ≤ sizeVas ts := by
  have h := sizeVas_append (ts.take k) (ts.drop k)
  rw [List.take_append_drop] at h
  omega
mutual
theorem size_le_szV : ∀ (t : Va), sizeVa t ≤ szVa t + 1
  | .mk _ _ _ ls ts => by
    rw [sizeVa, szVa]
    have := sizes_le_szVs ts
    omega
theorem sizes_le_szVs : ∀ (ts : List Va), sizeVas ts ≤ szVas ts
  | [] => Nat.le_refl _
  | t :: r => by
    rw [sizeVas, szVas]
    have := size_le_szV t
    have := sizes_le_szVs r
    omega
end
mutual
/-- The depth. -/
def depthVa : Va → Nat | .mk _ _ _ _ ts => depthVas ts + 1
def depthVas : List Va → Nat | [] => 0 | t :: r => max (depthVa t) (depthVas r)
end
theorem depthVa_eq (t : Va) : depthVa t = depthVas t.args + 1 := by cases t; rw [depthVa]; rfl
theorem depthVas_append : ∀ (a b : List Va), depthVas (a ++ b) = max (depthVas a) (depthVas b)
  | [], b => by simp [depthVas]
  | t :: a, b => by
    rw [List.cons_append, depthVas, depthVas, depthVas_append a b]
    omega
theorem depthVas_take (ts : List Va) (k : Nat) (h : k < ts.length) : depthVas (ts.take (k + 1)) = max (depthVas (ts.take k)) (depthVa ts[k]) := by
  rw [List.take_succ_eq_append_getElem h, depthVas_append, depthVas, depthVas]
  omega
mutual
theorem depth_le_sizeV : ∀ (t : Va), depthVa t ≤ sizeVa t
  | .mk _ _ _ ls ts => by
    rw [depthVa, sizeVa]
    have := depths_le_sizesV ts
    omega
theorem depths_le_sizesV : ∀ (ts : List Va), depthVas ts ≤ sizeVas ts
  | [] => Nat.le_refl _
  | t :: r => by
    rw [depthVas, sizeVas]
    have := depth_le_sizeV t
    have := depths_le_sizesV r
    omega
end
def SizeVOne (f : Nat) (t : Va) : Prop := ∀ (v : Value) (w : World), VaAt w w.heap.size v t → sizeVa t ≤ 2000000 → Calls Tryz.prog f #[v] w (IntBelow (sizeVa t) w)

def LeftVOne (f : Nat) (t : Va) : Prop := ∀ (v : Value) (left : Int) (w : World), VaAt w w.heap.size v t → 0 ≤ left → left ≤ 1000000 → Calls Tryz.prog f #[v, .int .i64 left] w (IntBelow (leftOf left (sizeVa t)) w)

end Go.Proofs.YtlmbnefoobameaaGreatDoor
end

section
namespace Go.Proofs.YtlmbnefoobameaaGreatDoor
open Go.RowKit

theorem isNameB_size (s : ByteArray) (h : isNameB s = true) : 1 ≤ s.size ∧ s.size ≤ 4 := by
  unfold isNameB at h
  simp only [Bool.and_eq_true, decide_eq_true_eq] at h
  exact ⟨h.1.2, h.2⟩

theorem size_nil {nm : ByteArray} (h : nm.size = 0) : nm = ⟨#[]⟩ := by
  obtain ⟨⟨l⟩⟩ := nm
  have : l = [] := List.length_eq_zero_iff.1 h
  rw [this]
theorem toList_nil_no {nm : ByteArray} (h : nm.size ≠ 0) : (nm.toList == []) = false := by
  rw [ByteArray.toList_eq]
  obtain ⟨⟨l⟩⟩ := nm
  cases l with
  | nil => exact absurd rfl h
  | cons x r => rfl
/-- Has a node of this kind this number, this name, these labels and so many parts? -/
def nodeVB (k n : Int) (nm : ByteArray) (ls : List ByteArray) (m : Nat) : Bool :=
  if k = 1 then decide (nm.size = 0) && decide (ls.length = 0) && decide (m = 0)
  else if k = 2 then decide (nm.size = 0) && decide (ls.length = 0) && decide (m = 0) && decide (0 ≤ n ∧ n ≤ 1)
  else if k = 3 then decide (nm.size = 0) && decide (n = 0) && decide (m = ls.length) && labelsB ls
  else if k = 4 then isNameB nm && decide (ls.length = 0) && decide (n = 0) && decide (m = 1)
  else if k = 5 then decide (nm.size = 0) && decide (ls.length = 0) && decide (n = 0)
  else false
theorem nodeVB_name (k n : Int) (nm : ByteArray) (ls : List ByteArray) (m : Nat) (h : nm.size ≠ 0) (hk : k ≠ 4) : nodeVB k n nm ls m = false := by
  unfold nodeVB
  simp [h, hk]
theorem nodeVB_labels (k n : Int) (nm : ByteArray) (ls : List ByteArray) (m : Nat) (h : ls.length ≠ 0) (hk : k ≠ 3) : nodeVB k n nm ls m = false := by
  unfold nodeVB
  simp only [h, hk, if_false, decide_false, Bool.and_false, Bool.false_and]
  simp
theorem nodeVB_noname (k n : Int) (nm : ByteArray) (ls : List ByteArray) (m : Nat) (h : isNameB nm = false) (hk : k = 4) : nodeVB k n nm ls m = false := by
  unfold nodeVB
  subst hk
  simp [h]
theorem nodeVB_other (k n : Int) (nm : ByteArray) (ls : List ByteArray) (m : Nat) (h1 : k ≠ 1) (h2 : k ≠ 2) (h3 : k ≠ 3) (h4 : k ≠ 4) (h5 : k ≠ 5) : nodeVB k n nm ls m = false := by
  unfold nodeVB
  rw [if_neg h1, if_neg h2, if_neg h3, if_neg h4, if_neg h5]
mutual
/-- Has every node one of the forms? -/
def formVa : Va → Bool | .mk k n nm ls ts => formVas ts && nodeVB k n nm ls ts.length
def formVas : List Va → Bool | [] => true | t :: r => formVa t && formVas r
end
theorem formVas_all : ∀ (ts : List Va), (∀ i, (h : i < ts.length) → formVa ts[i] = true) → formVas ts = true
  | [], _ => by rw [formVas]
  | t :: r, h => by
    rw [formVas, show formVa t = true from h 0 (by simp), formVas_all r fun i hi => h (i + 1) (by simpa using hi)]
    rfl
theorem formVas_no : ∀ (ts : List Va) (i : Nat) (h : i < ts.length), formVa ts[i] = false → formVas ts = false
  | [], i, h, _ => absurd h (by simp)
  | t :: r, 0, _, e => by
    rw [formVas]
    have : formVa t = false := e
    rw [this]
    rfl
  | t :: r, i + 1, h, e => by
    rw [formVas, formVas_no r i (by simpa using h) (by simpa using e), Bool.and_false]
theorem formVas_at : ∀ (ts : List Va), formVas ts = true → ∀ i, (h : i < ts.length) → formVa ts[i] = true := by
  intro ts h i hi
  cases hf : formVa ts[i] with
  | true => rfl
  | false => rw [formVas_no ts i hi hf] at h; cases h
theorem formVa_eq (t : Va) : formVa t = (formVas t.args && nodeVB t.kind t.num t.name t.labels t.args.length) := by
  cases t
  rw [formVa]
  rfl

def FormVOne (f : Nat) (t : Va) : Prop := ∀ (v : Value) (w : World), VaAt w w.heap.size v t → szVa t ≤ 1048576 → Calls Tryz.prog f #[v] w (BoolIs (formVa t) w)

/-- Is it a value? -/
def valueB (t : Va) : Bool := decide (sizeVa t ≤ 300) && formVa t

end Go.Proofs.YtlmbnefoobameaaGreatDoor
end

section
namespace Go.Proofs.YtlmbnefoobameaaGreatDoor

/-- What digits spell. -/
def valD (l : List UInt8) : Nat := l.foldl (fun a c => 10 * a + (c.toNat - 48)) 0
theorem valD_snoc (l : List UInt8) (c : UInt8) : valD (l ++ [c]) = 10 * valD l + (c.toNat - 48) := by simp [valD]
def IsDig (c : UInt8) : Prop := 48 ≤ c.toNat ∧ c.toNat ≤ 57

theorem digit_toNat (d : Nat) (h : d < 10) : (UInt8.ofNat (48 + d)).toNat = 48 + d := by
  rw [UInt8.toNat_ofNat']
  omega

theorem dec_rec (P : Nat → List UInt8 → Prop) (h1 : ∀ u, u < 10 → P u [UInt8.ofNat (48 + u)]) (h2 : ∀ u, 10 ≤ u → P (u / 10) (Lib.decDigits (u / 10)) → P u (Lib.decDigits (u / 10) ++ [UInt8.ofNat (48 + u % 10)])) (u : Nat) : P u (Lib.decDigits u) := by
  induction u using Nat.strongRecOn with
  | ind u ih =>
    rw [Lib.decDigits]
    by_cases h : u < 10
    · rw [dif_pos h]; exact h1 u h
    · rw [dif_neg h]; exact h2 u (by omega) (ih _ (by omega))

theorem dec_val (u : Nat) : valD (Lib.decDigits u) = u := by
  refine dec_rec (fun u l => valD l = u) (fun u h => ?_) (fun u h ih => ?_) u
  · show 10 * 0 + ((UInt8.ofNat (48 + u)).toNat - 48) = u
    rw [digit_toNat u h]
    omega
  · rw [valD_snoc, ih, digit_toNat _ (by omega)]
    omega
theorem dec_dig (u : Nat) : ∀ c ∈ Lib.decDigits u, IsDig c := by
  refine dec_rec (fun u l => ∀ c ∈ l, IsDig c) (fun u h c hc => ?_) (fun u h ih c hc => ?_) u
  · rw [List.mem_singleton.1 hc]
    have := digit_toNat u h
    exact ⟨by omega, by omega⟩
  · rcases List.mem_append.1 hc with hc | hc
    · exact ih c hc
    · rw [List.mem_singleton.1 hc]
      have := digit_toNat (u % 10) (by omega)
      exact ⟨by omega, by omega⟩
theorem dec_ne (u : Nat) : Lib.decDigits u ≠ [] := by
  refine dec_rec (fun u l => l ≠ []) (fun u h => ?_) (fun u h ih => ?_) u <;> simp
theorem dec_len (k : Nat) : ∀ u, u < 10 ^ (k + 1) → (Lib.decDigits u).length ≤ k + 1 := by
  induction k with
  | zero => intro u h; rw [Lib.decDigits, dif_pos (by simpa using h)]; simp
  | succ k ih =>
    intro u h
    rw [Lib.decDigits]
    by_cases h1 : u < 10
    · rw [dif_pos h1]; simp
    · rw [dif_neg h1, List.length_append]
      have := ih (u / 10) (by rw [Nat.div_lt_iff_lt_mul (by omega)]; rw [Nat.pow_succ 10 (k + 1)] at h; exact h)
      simp
      omega

theorem parse_snoc : ∀ (l : List UInt8) (acc v : Nat) (c : UInt8), Lib.parseUint10 acc l = .ok v → IsDig c → v * 10 + (c.toNat - 48) < 18446744073709551616 → Lib.parseUint10 acc (l ++ [c]) = .ok (v * 10 + (c.toNat - 48))
  | [], acc, v, c, h, hc, hv => by
    simp only [Lib.parseUint10] at h
    injection h with h
    subst h
    simp only [List.nil_append, Lib.parseUint10]
    rw [if_pos (show 48 ≤ c.toNat ∧ c.toNat ≤ 57 from hc), if_neg (by omega), if_neg (by omega)]
  | b :: l, acc, v, c, h, hc, hv => by
    simp only [Lib.parseUint10] at h
    simp only [List.cons_append, Lib.parseUint10]
    split at h
    · rename_i hb
      rw [if_pos hb]
      split at h
      · cases h
      · rename_i h1
        rw [if_neg h1]
        split at h
        · cases h
        · rename_i h2
          rw [if_neg h2]
          exact parse_snoc l _ v c h hc hv
    · cases h
theorem parse_dec (u : Nat) (hu : u < 18446744073709551616) : Lib.parseUint10 0 (Lib.decDigits u) = .ok u := by
  refine dec_rec (fun u l => u < 18446744073709551616 → Lib.parseUint10 0 l = .ok u) (fun u h hu => ?_) (fun u h ih hu => ?_) u hu
  · have hd := digit_toNat u h
    have := parse_snoc [] 0 0 (UInt8.ofNat (48 + u)) rfl ⟨by omega, by omega⟩ (by omega)
    rw [List.nil_append, hd] at this
    rw [this]
    congr 1
    omega
  · have hd := digit_toNat (u % 10) (by omega)
    have := parse_snoc _ 0 (u / 10) (UInt8.ofNat (48 + u % 10)) (ih (by omega)) ⟨by omega, by omega⟩ (by omega)
    rw [this, hd]
    congr 1
    omega

theorem atoi_itoa (n : Int) (h0 : -9223372036854775808 ≤ n) (h1 : n ≤ 9223372036854775807) : Lib.atoiAll (Lib.itoa n) = .ok n := by
  unfold Lib.itoa
  by_cases h : n < 0
  · rw [if_pos h]
    have hp := parse_dec n.natAbs (by omega)
    simp only [Lib.atoiAll]
    rw [if_pos (by decide), Lib.parseMag, if_neg (dec_ne _), hp]
    simp only []
    rw [if_neg (by simp), if_neg (by omega), if_pos (by decide)]
    congr 1
    omega
  · rw [if_neg h]
    have hp := parse_dec n.toNat (by omega)
    obtain ⟨c, r, hcr⟩ : ∃ c r, Lib.decDigits n.toNat = c :: r := by
      cases hl : Lib.decDigits n.toNat with
      | nil => exact absurd hl (dec_ne _)
      | cons c r => exact ⟨c, r, rfl⟩
    have hc : IsDig c := dec_dig n.toNat c (by rw [hcr]; simp)
    unfold IsDig at hc
    rw [hcr] at hp ⊢
    simp only [Lib.atoiAll]
    rw [if_neg (by omega), Lib.parseMag, if_neg (by simp), hp]
    simp only []
    rw [if_neg (by omega), if_neg (by omega), if_neg (by omega)]
    congr 1
    omega

theorem itoa_inj (n m : Int) (h0 : -9223372036854775808 ≤ n) (h1 : n ≤ 9223372036854775807) (h2 : -9223372036854775808 ≤ m) (h3 : m ≤ 9223372036854775807) (h : Lib.itoa n = Lib.itoa m) : n = m := by
  have e := atoi_itoa n h0 h1
  rw [h, atoi_itoa m h2 h3] at e
  injection e with e
  exact e.symm

end Go.Proofs.YtlmbnefoobameaaGreatDoor
end

section
namespace Go.Proofs.YtlmbnefoobameaaGreatDoor

def behind (l : List UInt8) : List UInt8 := if l.head? = some 45 then l.tail else l
def sign (l : List UInt8) (u : Nat) : Int := if l.head? = some 45 then -(u : Int) else u

theorem itoa_behind (n : Int) : behind (Lib.itoa n) = Lib.decDigits n.natAbs ∧ (n = sign (Lib.itoa n) n.natAbs) := by
  unfold behind sign Lib.itoa
  by_cases h : n < 0
  · rw [if_pos h]
    simp
    omega
  · rw [if_neg h]
    have e : n.toNat = n.natAbs := by omega
    rw [e]
    have hh : (Lib.decDigits n.natAbs).head? ≠ some 45 := by
      intro hc
      have := dec_dig n.natAbs 45 (List.mem_of_mem_head? hc)
      unfold IsDig at this
      simp at this
    rw [if_neg hh, if_neg hh]
    exact ⟨rfl, by omega⟩

/-- Why a string is no numeral of at most k + 1 digits. -/
theorem no_short {l : List UInt8} {k : Nat} (h : (behind l).length < 1 ∨ k + 1 < (behind l).length) (n : Int) (hn : n.natAbs < 10 ^ (k + 1)) : l ≠ Lib.itoa n := by
  rintro rfl
  rw [(itoa_behind n).1] at h
  have h1 := dec_len k n.natAbs hn
  have h2 := List.length_pos_iff.2 (dec_ne n.natAbs)
  omega
theorem no_digit {l : List UInt8} {c : UInt8} (hc : c ∈ behind l) (h : ¬ IsDig c) (n : Int) : l ≠ Lib.itoa n := by
  rintro rfl
  rw [(itoa_behind n).1] at hc
  exact h (dec_dig _ c hc)
theorem the_number {l : List UInt8} (n : Int) (h : l = Lib.itoa n) : n = sign l (valD (behind l)) := by
  subst h
  rw [(itoa_behind n).1, dec_val]
  exact (itoa_behind n).2

theorem valD_take (l : List UInt8) (k : Nat) (h : k < l.length) : valD (l.take (k + 1)) = 10 * valD (l.take k) + (l[k].toNat - 48) := by
  rw [List.take_succ_eq_append_getElem h, valD_snoc]
theorem valD_lt (l : List UInt8) (k : Nat) : k ≤ l.length → (∀ i, (h : i < l.length) → i < k → IsDig l[i]) → valD (l.take k) < 10 ^ k := by
  induction k with
  | zero => intro _ _; simp [valD]
  | succ k ih =>
    intro hk hd
    have h1 := ih (by omega) (fun i h hi => hd i h (by omega))
    have h2 := hd k (by omega) (by omega)
    unfold IsDig at h2
    rw [valD_take l k (by omega), Nat.pow_succ]
    omega

end Go.Proofs.YtlmbnefoobameaaGreatDoor
end

section
namespace Go.Proofs.YtlmbnefoobameaaGreatDoor
open Go.RowKit

mutual
/-- Every number fits an int. -/
def numsB : Va → Bool | .mk _ n _ _ ts => decide (-9223372036854775808 ≤ n ∧ n ≤ 9223372036854775807) && numsBs ts
def numsBs : List Va → Bool | [] => true | t :: r => numsB t && numsBs r
end
theorem numsBs_all : ∀ (ts : List Va), (∀ i, (h : i < ts.length) → numsB ts[i] = true) → numsBs ts = true
  | [], _ => by rw [numsBs]
  | t :: r, h => by
    rw [numsBs, show numsB t = true from h 0 (by simp), numsBs_all r fun i hi => h (i + 1) (by simpa using hi)]
    rfl
theorem numsBs_at : ∀ (ts : List Va), numsBs ts = true → ∀ i, (h : i < ts.length) → numsB ts[i] = true
  | [], _, i, h => absurd h (by simp)
  | t :: r, e, i, h => by
    rw [numsBs, Bool.and_eq_true] at e
    cases i with
    | zero => exact e.1
    | succ i => exact numsBs_at r e.2 i (by simpa using h)
theorem numsB_mk (k n : Int) (nm : ByteArray) (ls : List ByteArray) (ts : List Va) (h : -9223372036854775808 ≤ n ∧ n ≤ 9223372036854775807) (h2 : ∀ i, (h : i < ts.length) → numsB ts[i] = true) : numsB (.mk k n nm ls ts) = true := by
  rw [numsB, numsBs_all ts h2]
  simp [h]
theorem numsB_of (t : Va) (h : numsB t = true) : (-9223372036854775808 ≤ t.num ∧ t.num ≤ 9223372036854775807) ∧ ∀ i, (h : i < t.args.length) → numsB t.args[i] = true := by
  cases t
  rw [numsB, Bool.and_eq_true, decide_eq_true_eq] at h
  exact ⟨h.1, numsBs_at _ h.2⟩

end Go.Proofs.YtlmbnefoobameaaGreatDoor
end
