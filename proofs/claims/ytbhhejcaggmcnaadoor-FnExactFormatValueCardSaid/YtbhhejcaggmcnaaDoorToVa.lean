/- laws.toValue makes a new tree of values. -/
import Derived.Test.YtbhhejcaggmcnaaDoorProg
import Derived.Test.YtbhhejcaggmcnaaDoorVaIn
import Derived.Test.YtbhhejcaggmcnaaDoorGather
import Derived.Outline
namespace Go.Proofs.YtbhhejcaggmcnaaDoor
open Go.RowKit

/-- A new tree is handed back. -/
def NewVa (w : World) (t : Va) (e : Ending) (w' : World) : Prop := ∃ v, e = .returned v ∧ VaIn w' (Span w.heap.size w'.heap.size) v t ∧ Below w.heap.size w w'
/-- A new list of trees is handed back. -/
def NewVas (w : World) (ts : List Va) (e : Ending) (w' : World) : Prop := ∃ g c, e = .returned (.slice (some ⟨g, 0, none⟩) ts.length c) ∧ w.heap.size ≤ g ∧ VasIn w' (Span w.heap.size w'.heap.size) (some ⟨g, 0, none⟩) ts ∧ Below w.heap.size w w'

def ToVOne (t : Va) : Prop := ∀ (v : Value) (w : World), VaAt w w.heap.size v t → szVa t ≤ 1048576 → Calls Tryd.prog 10 #[v] w (NewVa w t)
def ToVMany (ts : List Va) : Prop := ∀ (A : Option Addr) (c : Nat) (w : World), VasAt w w.heap.size A ts → szVas ts ≤ 1048576 → Calls Tryd.prog 40 #[.slice A ts.length c] w (NewVas w ts)

set_option maxHeartbeats 1000000 in
theorem toValue_of (k n : Int) (nm : ByteArray) (ls : List ByteArray) (ts : List Va) (h : ToVMany ts) : ToVOne (.mk k n nm ls ts) := by
  intro v w hv hsz
  obtain ⟨L, lc, A, ac, rfl, hnm, hn, hz, hl, ha⟩ := hv.open
  rw [szVa_eq] at hsz
  simp only [Va.kind, Va.num, Va.name, Va.labels, Va.args] at *
  have HL := Lib.hid (fun W h => toStringS_any L lc ls W h (by omega))
  have HT := Lib.hid (fun W hw => h A ac W hw (by omega))
  have HN := Lib.hid hz
  clear hz
  go_enter Tryd.func10, Tryd.ntmps10
  go_wp2_with fail
  obtain ⟨hb0, q0, r0, o0, hsz0⟩ := boxes3 w 25 30 30 #[.int .i64 k, .int .i64 n, .string nm, .slice L ls.length lc, .slice A ts.length ac] #[.int .i64 0, .int .i64 0, .string ⟨#[]⟩, .slice none 0 0, .slice none 0 0] #[.int .i64 k, .int .i64 n, .string nm, .slice none 0 0, .slice none 0 0]
  generalize ((w.alloc (.cells #[.int .i64 k, .int .i64 n, .string nm, .slice L ls.length lc, .slice A ts.length ac] 25)).alloc (.cells #[.int .i64 0, .int .i64 0, .string ⟨#[]⟩, .slice none 0 0, .slice none 0 0] 30)).alloc (.cells #[.int .i64 k, .int .i64 n, .string nm, .slice none 0 0, .slice none 0 0] 30) = w0 at *
  have HZ := Lib.hid hsz0
  refine (HL.out w0 (hl.up' hb0)).mono ?_
  rintro e w1 ⟨g, rfl, hg, hw1, hb1⟩
  have q1 := q0.below hb1 q0.lt
  have r1 := r0.below hb1 r0.lt
  have o1 := o0.below hb1 o0.lt
  have hb1' := hb0.trans (hb1.mono hb0.size)
  have c1 : w1.cell? ⟨w.heap.size, 4, none⟩ = some (.slice A ts.length ac) := q1.cell 4
  have c2 : w1.cell? ⟨w.heap.size + 1 + 1, 3, none⟩ = some (.slice none 0 0) := o1.cell 3
  have c3 : w1.frozen? ⟨w.heap.size + 1 + 1, 3, none⟩ = false := o1.free 3
  have hg1 : w.heap.size + 3 ≤ g := by have := HZ.out; omega
  have hs1 := hb1.size
  clear q0 r0 o0 hsz0
  go_wp2_with fail
  have hw2 := Whole1.set o1 3 (.slice (some ⟨g, 0, none⟩) ls.length ls.length)
  have hb2 : Below w.heap.size w (w1.setCell ⟨w.heap.size + 1 + 1, 3, none⟩ (.slice (some ⟨g, 0, none⟩) ls.length ls.length)) := hb1'.setCell (by simp; omega) _
  have hr2 := Whole1.below (B := w.heap.size + 2) r1 ((Below.refl _ _).setCell (p := ⟨w.heap.size + 1 + 1, 3, none⟩) (by simp) (.slice (some ⟨g, 0, none⟩) ls.length ls.length)) (by omega)
  have hg2 : Whole1 (w1.setCell ⟨w.heap.size + 1 + 1, 3, none⟩ (.slice (some ⟨g, 0, none⟩) ls.length ls.length)) g 9 (strVals ls).toArray := (Below.heap_setCell _ _ _ _ (by simp; omega)).trans hw1
  have hs2 : (w1.setCell ⟨w.heap.size + 1 + 1, 3, none⟩ (.slice (some ⟨g, 0, none⟩) ls.length ls.length)).heap.size = w1.heap.size := by simp [World.setCell]
  have HG := Lib.hid hw1.lt
  clear hw1 r1 o1 q1 c1 c2 c3
  generalize w1.setCell ⟨w.heap.size + 1 + 1, 3, none⟩ (.slice (some ⟨g, 0, none⟩) ls.length ls.length) = w2 at *
  have HZ2 := Lib.hid hs2
  clear hs2
  refine (HT.out w2 (ha.up hb2)).mono ?_
  rintro e w3 ⟨g3, c3, rfl, hg3, ht3, hb3⟩
  have hw3 := hw2.below hb3 hw2.lt
  have hr3 := hr2.below hb3 hr2.lt
  have hl3 := hg2.below hb3 hg2.lt
  have hb3' := hb2.trans (hb3.mono hb2.size)
  have hs3 := hb3.size
  have c4 : w3.cell? ⟨w.heap.size + 1 + 1, 4, none⟩ = some (.slice none 0 0) := hw3.cell 4
  have c5 : w3.frozen? ⟨w.heap.size + 1 + 1, 4, none⟩ = false := hw3.free 4
  have c6 : w3.cell? ⟨w.heap.size + 1 + 1, 0, none⟩ = some (.int .i64 k) := hw3.cell 0
  have c7 : w3.cell? ⟨w.heap.size + 1 + 1, 3, none⟩ = some (.slice (some ⟨g, 0, none⟩) ls.length ls.length) := hw3.cell 3
  have c61 : w3.cell? ⟨w.heap.size + 1 + 1, 1, none⟩ = some (.int .i64 n) := hw3.cell 1
  have c62 : w3.cell? ⟨w.heap.size + 1 + 1, 2, none⟩ = some (.string nm) := hw3.cell 2
  have d0 : w3.cell? ⟨w.heap.size + 1, 0, none⟩ = some (.int .i64 0) := hr3.cell 0
  have d1 : w3.cell? ⟨w.heap.size + 1, 1, none⟩ = some (.int .i64 0) := hr3.cell 1
  have d2 : w3.cell? ⟨w.heap.size + 1, 2, none⟩ = some (.string ⟨#[]⟩) := hr3.cell 2
  have d3 : w3.cell? ⟨w.heap.size + 1, 3, none⟩ = some (.slice none 0 0) := hr3.cell 3
  have d4 : w3.cell? ⟨w.heap.size + 1, 4, none⟩ = some (.slice none 0 0) := hr3.cell 4
  have f0 : w3.frozen? ⟨w.heap.size + 1, 0, none⟩ = false := hr3.free 0
  have f1 : w3.frozen? ⟨w.heap.size + 1, 1, none⟩ = false := hr3.free 1
  have f2 : w3.frozen? ⟨w.heap.size + 1, 2, none⟩ = false := hr3.free 2
  have f3 : w3.frozen? ⟨w.heap.size + 1, 3, none⟩ = false := hr3.free 3
  have f4 : w3.frozen? ⟨w.heap.size + 1, 4, none⟩ = false := hr3.free 4
  clear hw2 hr2 hg2 hw3 hr3
  have hgl := hl3.lt
  have hg1w : g < w2.heap.size := by have := HZ2.out; have := HG.out; omega
  go_wp2
  refine bodyPost_ret (v := .agg #[.int .i64 k, .int .i64 n, .string nm, .slice (some ⟨g, 0, none⟩) ls.length ls.length, .slice (some ⟨g3, 0, none⟩) ts.length c3]) (by simp [results, Tryd.results10, go_sem, d0, d1, d2, d3, d4]) rfl ⟨_, rfl, ?_, ?_⟩
  · have hk : ∀ b, w.heap.size + 3 ≤ b → ((((((w3.setCell ⟨w.heap.size + 1 + 1, 4, none⟩ (.slice (some ⟨g3, 0, none⟩) ts.length c3)).setCell ⟨w.heap.size + 1, 0, none⟩ (.int .i64 k)).setCell ⟨w.heap.size + 1, 1, none⟩ (.int .i64 n)).setCell ⟨w.heap.size + 1, 2, none⟩ (.string nm)).setCell ⟨w.heap.size + 1, 3, none⟩ (.slice (some ⟨g, 0, none⟩) ls.length ls.length)).setCell ⟨w.heap.size + 1, 4, none⟩ (.slice (some ⟨g3, 0, none⟩) ts.length c3)).heap[b]? = w3.heap[b]? := fun b h => by
      rw [Below.heap_setCell _ _ _ _ (by simp; omega), Below.heap_setCell _ _ _ _ (by simp; omega), Below.heap_setCell _ _ _ _ (by simp; omega), Below.heap_setCell _ _ _ _ (by simp; omega), Below.heap_setCell _ _ _ _ (by simp; omega), Below.heap_setCell _ _ _ _ (by simp; omega)]
    have hS : ((((((w3.setCell ⟨w.heap.size + 1 + 1, 4, none⟩ (.slice (some ⟨g3, 0, none⟩) ts.length c3)).setCell ⟨w.heap.size + 1, 0, none⟩ (.int .i64 k)).setCell ⟨w.heap.size + 1, 1, none⟩ (.int .i64 n)).setCell ⟨w.heap.size + 1, 2, none⟩ (.string nm)).setCell ⟨w.heap.size + 1, 3, none⟩ (.slice (some ⟨g, 0, none⟩) ls.length ls.length)).setCell ⟨w.heap.size + 1, 4, none⟩ (.slice (some ⟨g3, 0, none⟩) ts.length c3)).heap.size = w3.heap.size := by simp [World.setCell]
    rw [hS]
    have h3 : w.heap.size + 3 ≤ w2.heap.size := by have := HZ2.out; have := HZ.out; omega
    refine VaIn.of (t := .mk k n nm ls ts) (Sa := Span w2.heap.size w3.heap.size) hnm hn HN.out (.inr ⟨rfl, ⟨by omega, hgl⟩, RowStrs.same (RowStrs.of_whole hl3) (hk _ hg1)⟩) (ht3.keep fun b hb _ => hk b (by have := hb.1; omega)) fun b hb => ⟨⟨by have := hb.1; omega, hb.2⟩, by have := hb.1; omega⟩
  · exact (((((hb3'.setCell (by simp; omega) _).setCell (by simp) _).setCell (by simp) _).setCell (by simp) _).setCell (by simp) _).setCell (by simp) _

theorem infoValue : (Tryd.prog.info? 30).map (fun i => (i.zero, i.size, i.bytes)) = some (some (.agg #[.int .i64 0, .int .i64 0, .string ⟨#[]⟩, .slice none 0 0, .slice none 0 0]), 5, 80) := by kernel_rfl

/-- Row g of n elements; those below k are made, each in blocks of its own. -/
def VFilling (w : World) (lo g n k : Nat) (ts : List Va) : Prop :=
  ∃ (cs : Array Value) (vs : Nat → Value) (bd : Nat → Nat), Whole1 w g 30 cs ∧ cs.size = n * 5 ∧ (∀ i, i < k → ∀ j, j < 5 → (partAt (vs i) j).isSome = true ∧ cs[i * 5 + j]? = partAt (vs i) j) ∧
    lo ≤ g ∧ g < bd 0 ∧ (∀ i, i < k → bd i ≤ bd (i + 1)) ∧ bd k ≤ w.heap.size ∧ ∀ i, (hi : i < ts.length) → i < k → VaIn w (Span (bd i) (bd (i + 1))) (vs i) ts[i]

theorem VFilling.done {w : World} {lo g : Nat} {ts : List Va} (h : VFilling w lo g ts.length ts.length ts) (hm : ts.length ≤ maxLen) : VasIn w (Span lo w.heap.size) (some ⟨g, 0, none⟩) ts := by
  obtain ⟨cs, vs, bd, h1, h2, h3, h4, h5, h6, h7, h8⟩ := h
  refine ⟨hm, g, vs, fun i => Span (bd i) (bd (i + 1)), .inr ⟨rfl, ⟨h4, h1.lt⟩, cs, h1, h3⟩, fun i hi b hb => ?_, fun i j hi hj hne b hb hb' => ?_, fun i hi => h8 i hi hi⟩
  · have a := bd_mono bd _ h6 0 i (by omega) (by omega)
    have c := bd_mono bd _ h6 (i + 1) ts.length (by omega) (Nat.le_refl _)
    have := hb.1
    have := hb.2
    exact ⟨⟨by omega, by omega⟩, by omega⟩
  · have := hb.1
    have := hb.2
    have := hb'.1
    have := hb'.2
    rcases Nat.lt_or_gt_of_ne hne with hlt | hlt
    · have a := bd_mono bd _ h6 (i + 1) j (by omega) (by omega)
      omega
    · have a := bd_mono bd _ h6 (j + 1) i (by omega) (by omega)
      omega
theorem VFilling.below {w w' : World} {lo g n k : Nat} {ts : List Va} (h : VFilling w lo g n k ts) (hb : Below w.heap.size w w') : VFilling w' lo g n k ts := by
  obtain ⟨cs, vs, bd, h1, h2, h3, h4, h5, h6, h7, h8⟩ := h
  refine ⟨cs, vs, bd, h1.below hb h1.lt, h2, h3, h4, h5, h6, Nat.le_trans h7 hb.size, fun i hi hk => (h8 i hi hk).keep fun b hB _ => hb.block b ?_⟩
  have := bd_mono bd k h6 (i + 1) k (by omega) (Nat.le_refl _)
  have := hB.2
  omega
/-- The next element is stored. -/
theorem VFilling.step {w w' : World} {lo g n k : Nat} {ts : List Va} {a b c d e : Value} (h : VFilling w lo g n k ts) (hb : Below w.heap.size w w') (hk : k < n) (hkt : k < ts.length) (hv : VaIn w' (Span w.heap.size w'.heap.size) (.agg #[a, b, c, d, e]) ts[k]) :
    VFilling (((((w'.setCell ⟨g, k * 5, none⟩ a).setCell ⟨g, k * 5 + 1, none⟩ b).setCell ⟨g, k * 5 + 2, none⟩ c).setCell ⟨g, k * 5 + 3, none⟩ d).setCell ⟨g, k * 5 + 4, none⟩ e) lo g n (k + 1) ts := by
  obtain ⟨cs, vs, bd, h1, h2, h3, h4, h5, h6, h7, h8⟩ := h
  have hlt := h1.lt
  have hw := (((((h1.below hb hlt).set (k * 5) a).set (k * 5 + 1) b).set (k * 5 + 2) c).set (k * 5 + 3) d).set (k * 5 + 4) e
  have hsz := hb.size
  have hk' : ∀ q, q ≠ g → (((((w'.setCell ⟨g, k * 5, none⟩ a).setCell ⟨g, k * 5 + 1, none⟩ b).setCell ⟨g, k * 5 + 2, none⟩ c).setCell ⟨g, k * 5 + 3, none⟩ d).setCell ⟨g, k * 5 + 4, none⟩ e).heap[q]? = w'.heap[q]? := fun q hq => by
    rw [Below.heap_setCell _ _ _ _ hq, Below.heap_setCell _ _ _ _ hq, Below.heap_setCell _ _ _ _ hq, Below.heap_setCell _ _ _ _ hq, Below.heap_setCell _ _ _ _ hq]
  have hS : (((((w'.setCell ⟨g, k * 5, none⟩ a).setCell ⟨g, k * 5 + 1, none⟩ b).setCell ⟨g, k * 5 + 2, none⟩ c).setCell ⟨g, k * 5 + 3, none⟩ d).setCell ⟨g, k * 5 + 4, none⟩ e).heap.size = w'.heap.size := by simp [World.setCell]
  generalize ((((w'.setCell ⟨g, k * 5, none⟩ a).setCell ⟨g, k * 5 + 1, none⟩ b).setCell ⟨g, k * 5 + 2, none⟩ c).setCell ⟨g, k * 5 + 3, none⟩ d).setCell ⟨g, k * 5 + 4, none⟩ e = W at *
  have hg0 : ∀ i, i ≤ k → g < bd i := fun i hi => Nat.lt_of_lt_of_le h5 (bd_mono bd k h6 0 i (by omega) hi)
  refine ⟨_, fun j => if j = k then .agg #[a, b, c, d, e] else vs j, fun j => if j ≤ k then bd j else w'.heap.size, hw, by simp [h2], fun i hi j hj => ?_, h4, by simpa using h5, fun i hi => ?_, ?_, fun i hi hik => ?_⟩
  · dsimp only
    have hb3 : k * 5 + 4 < cs.size := by omega
    by_cases ek : i = k
    · subst ek
      rw [if_pos rfl]
      simp only [Array.getElem?_setIfInBounds, Array.size_setIfInBounds]
      have : j = 0 ∨ j = 1 ∨ j = 2 ∨ j = 3 ∨ j = 4 := by omega
      rcases this with rfl | rfl | rfl | rfl | rfl
      · simp [partAt]; omega
      · simp [partAt]; omega
      · simp [partAt]; omega
      · simp [partAt]; omega
      · simp [partAt]; omega
    · rw [if_neg ek]
      have hh := h3 i (by omega) j hj
      refine ⟨hh.1, ?_⟩
      rw [← hh.2]
      simp only [Array.getElem?_setIfInBounds, Array.size_setIfInBounds]
      rw [if_neg (by omega), if_neg (by omega), if_neg (by omega), if_neg (by omega), if_neg (by omega)]
  · dsimp only
    by_cases ek : i = k
    · subst ek
      rw [if_pos (Nat.le_refl _), if_neg (by omega)]
      omega
    · rw [if_pos (by omega), if_pos (by omega)]
      exact h6 i (by omega)
  · dsimp only
    rw [if_neg (by omega), hS]
    exact Nat.le_refl _
  · dsimp only
    by_cases ek : i = k
    · subst ek
      rw [if_pos rfl, if_pos (Nat.le_refl _), if_neg (by omega)]
      refine (hv.wide fun q hq => ⟨by have := hq.1; omega, hq.2⟩).keep fun q hq _ => hk' q ?_
      have := hq.1
      have := hg0 i (Nat.le_refl _)
      omega
    · rw [if_neg ek, if_pos (by omega), if_pos (by omega)]
      refine (h8 i hi (by omega)).keep fun q hq _ => ?_
      have e1 := hq.1
      have e2 := hq.2
      have e3 := hg0 i (by omega)
      have e4 := bd_mono bd k h6 (i + 1) k (by omega) (Nat.le_refl _)
      rw [hk' q (by omega)]
      exact hb.block q (by omega)

theorem VFilling.cells {w : World} {lo g n k : Nat} {ts : List Va} (h : VFilling w lo g n k ts) (i : Nat) (hi : i < n) : ∃ x y z u v, w.cell? ⟨g, i * 5, none⟩ = some x ∧ w.cell? ⟨g, i * 5 + 1, none⟩ = some y ∧ w.cell? ⟨g, i * 5 + 2, none⟩ = some z ∧ w.cell? ⟨g, i * 5 + 3, none⟩ = some u ∧ w.cell? ⟨g, i * 5 + 4, none⟩ = some v ∧
    w.frozen? ⟨g, i * 5, none⟩ = false ∧ w.frozen? ⟨g, i * 5 + 1, none⟩ = false ∧ w.frozen? ⟨g, i * 5 + 2, none⟩ = false ∧ w.frozen? ⟨g, i * 5 + 3, none⟩ = false ∧ w.frozen? ⟨g, i * 5 + 4, none⟩ = false := by
  obtain ⟨cs, vs, bd, h1, h2, _⟩ := h
  refine ⟨cs[i * 5]'(by omega), cs[i * 5 + 1]'(by omega), cs[i * 5 + 2]'(by omega), cs[i * 5 + 3]'(by omega), cs[i * 5 + 4]'(by omega), ?_, ?_, ?_, ?_, ?_, h1.free _, h1.free _, h1.free _, h1.free _, h1.free _⟩
  all_goals rw [h1.cell, Array.getElem?_eq_getElem]
theorem VFilling.start (w : World) (cs : Array Value) (n : Nat) (ts : List Va) (hs : cs.size = n * 5) : VFilling (w.alloc (.cells cs 30)) w.heap.size w.heap.size n 0 ts :=
  ⟨cs, fun _ => .bool false, fun _ => w.heap.size + 1, Whole1.new _ _ _, hs, fun i hi => absurd hi (by omega), Nat.le_refl _, Nat.lt_succ_self _, fun i hi => absurd hi (by omega), by simp, fun i _ hi => absurd hi (by omega)⟩

set_option maxHeartbeats 1000000 in
theorem toValueS_of (ts : List Va) (hall : ∀ i, (h : i < ts.length) → ToVOne ts[i]) : ToVMany ts := by
  intro A c w hA hsz
  have hm := hA.1
  have hle := szVas_len ts
  have HALL := Lib.hid hall
  clear hall
  obtain ⟨cs, hcs, hmk⟩ := run_make_elems (P := Tryd.prog) (n := ts.length) Tryd.underlying28 infoValue (by omega) (by omega) w
  have hcs' := Lib.hid hcs
  clear hcs
  go_enter Tryd.func40, Tryd.ntmps40
  go_wp2
  go_loopw [4] (fun i wr => ∃ k : Nat, k ≤ ts.length ∧ i = .int .i64 k ∧ VFilling wr w.heap.size w.heap.size ts.length k ts ∧ Below w.heap.size w wr) (fun i _ => ts.length - (intOf i).toNat)
  case atStart => exact ⟨0, Nat.zero_le _, rfl, VFilling.start _ _ _ _ hcs'.out, (Below.refl _ _).alloc (Nat.le_refl _) _⟩
  case round =>
    obtain ⟨k, hk, rfl, hf, hb⟩ := hrel
    clear hmk
    by_cases hlt : k < ts.length
    · obtain ⟨b, off, L, lc, A', ac, rfl, hbl, q0, q1, q2, q3, q4, ht⟩ := (hA.below hb).elem k hlt
      have hpt := szVa_part ts k hlt
      have HT := Lib.hid (HALL.out k hlt _ wr (ht.more hb.size) (by omega))
      have HF := Lib.hid hf
      clear ht hf
      go_wp2_with fail
      refine HT.out.mono ?_
      rintro e w1 ⟨v, rfl, hv, hb1⟩
      have hv' := Lib.hid hv
      obtain ⟨L1, lc1, A1, ac1, gl1, rfl, _⟩ := hv.open
      clear hv
      obtain ⟨x, y, z, x4, x5, c1, c2, c3, c4, c5, c6, c7, c8, c9, c10⟩ := (HF.out.below hb1).cells k hlt
      have hst := Lib.hid (HF.out.step hb1 hlt hlt hv'.out)
      have hb' := hb.trans (hb1.mono hb.size)
      clear q0 q1 q2 q3 q4 HF hv'
      go_wp2
      go_roundw
      case rel => exact ⟨k + 1, by omega, by go_num, hst.out, ((((hb'.setCell (Nat.le_refl _) _).setCell (Nat.le_refl _) _).setCell (Nat.le_refl _) _).setCell (Nat.le_refl _) _).setCell (Nat.le_refl _) _⟩
      case measure => simp [intOf]; omega
    · have hke : k = ts.length := by omega
      subst hke
      go_wp2
      go_ret
      exact ⟨_, _, rfl, Nat.le_refl _, hf.done hm, hb⟩

theorem toValue_any (t : Va) : ToVOne t := by
  induction t using Va.ind with
  | h k n nm ls ts ih => exact toValue_of k n nm ls ts (toValueS_of ts ih)


end Go.Proofs.YtbhhejcaggmcnaaDoor
