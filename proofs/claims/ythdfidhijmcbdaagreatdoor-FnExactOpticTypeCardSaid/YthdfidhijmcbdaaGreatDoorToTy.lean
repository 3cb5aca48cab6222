/- laws.toType makes a new tree. -/
import Derived.Test.YthdfidhijmcbdaaGreatDoorProg
import Derived.Test.YthdfidhijmcbdaaGreatDoorTyIn
import Derived.Test.YthdfidhijmcbdaaGreatDoorSz
import Derived.Outline
namespace Go.Proofs.YthdfidhijmcbdaaGreatDoor
open Go.RowKit

/-- A new tree is handed back. -/
def NewTy (w : World) (t : Ty) (e : Ending) (w' : World) : Prop := ∃ v, e = .returned v ∧ TyIn w' (Span w.heap.size w'.heap.size) v t ∧ Below w.heap.size w w'
/-- A new list of trees is handed back. -/
def NewTys (w : World) (ts : List Ty) (e : Ending) (w' : World) : Prop := ∃ g c, e = .returned (.slice (some ⟨g, 0, none⟩) ts.length c) ∧ w.heap.size ≤ g ∧ TysIn w' (Span w.heap.size w'.heap.size) (some ⟨g, 0, none⟩) ts ∧ Below w.heap.size w w'

theorem bcell {W w1 : World} (hb : Below W.heap.size W w1) : (∀ b o, b < W.heap.size → w1.cell? ⟨b, o, none⟩ = W.cell? ⟨b, o, none⟩) ∧ (∀ b o, b < W.heap.size → w1.frozen? ⟨b, o, none⟩ = W.frozen? ⟨b, o, none⟩) :=
  ⟨fun b o h => hb.cell (p := ⟨b, o, none⟩) h, fun b o h => hb.frozen (p := ⟨b, o, none⟩) h⟩

theorem boxes3 (w : World) (t1 t2 t3 : TypeId) (a b c : Array Value) :
    Below w.heap.size w (((w.alloc (.cells a t1)).alloc (.cells b t2)).alloc (.cells c t3)) ∧ Whole1 (((w.alloc (.cells a t1)).alloc (.cells b t2)).alloc (.cells c t3)) w.heap.size t1 a ∧
    Whole1 (((w.alloc (.cells a t1)).alloc (.cells b t2)).alloc (.cells c t3)) (w.heap.size + 1) t2 b ∧ Whole1 (((w.alloc (.cells a t1)).alloc (.cells b t2)).alloc (.cells c t3)) (w.heap.size + 1 + 1) t3 c ∧
    (((w.alloc (.cells a t1)).alloc (.cells b t2)).alloc (.cells c t3)).heap.size = w.heap.size + 3 := by
  refine ⟨(((Below.refl _ _).alloc (Nat.le_refl _) _).alloc (by simp) _).alloc (by simp; omega) _, ?_, ?_, ?_, by simp⟩
  · exact Whole1.below (B := w.heap.size + 1) (Whole1.new _ _ _) (((Below.refl _ _).alloc (by simp) _).alloc (by simp) _) (by omega)
  · have h := Whole1.new (w.alloc (.cells a t1)) t2 b
    exact Whole1.below (B := w.heap.size + 2) (by simpa using h) ((Below.refl _ _).alloc (by simp) _) (by omega)
  · have h := Whole1.new ((w.alloc (.cells a t1)).alloc (.cells b t2)) t3 c
    simpa using h

def ToOne (t : Ty) : Prop := ∀ (v : Value) (w : World), TyAt w w.heap.size v t → szTy t ≤ 1048576 → Calls Tryz.prog 20 #[v] w (NewTy w t)
def ToMany (ts : List Ty) : Prop := ∀ (A : Option Addr) (c : Nat) (w : World), TysAt w w.heap.size A ts → szTys ts ≤ 1048576 → Calls Tryz.prog 49 #[.slice A ts.length c] w (NewTys w ts)

set_option maxHeartbeats 1000000 in
theorem toType_of (k : Int) (ls : List ByteArray) (ts : List Ty) (h : ToMany ts) : ToOne (.mk k ls ts) := by
  intro v w hv hsz
  obtain ⟨L, lc, A, ac, rfl, hn, hz, hl, ha⟩ := hv.open
  rw [szTy_eq] at hsz
  simp only [Ty.kind, Ty.labels, Ty.args] at *
  have HL := Lib.hid (fun W h => toStringS_any L lc ls W h (by omega))
  have HT := Lib.hid (fun W hw => h A ac W hw (by omega))
  have HN := Lib.hid hz
  clear hz
  go_enter Tryz.func20, Tryz.ntmps20
  go_wp2_with fail
  obtain ⟨hb0, q0, r0, o0, hsz0⟩ := boxes3 w 41 27 27 #[.int .i64 k, .slice L ls.length lc, .slice A ts.length ac] #[.int .i64 0, .slice none 0 0, .slice none 0 0] #[.int .i64 k, .slice none 0 0, .slice none 0 0]
  generalize ((w.alloc (.cells #[.int .i64 k, .slice L ls.length lc, .slice A ts.length ac] 41)).alloc (.cells #[.int .i64 0, .slice none 0 0, .slice none 0 0] 27)).alloc (.cells #[.int .i64 k, .slice none 0 0, .slice none 0 0] 27) = w0 at *
  have HZ := Lib.hid hsz0
  refine (HL.out w0 (hl.up' hb0)).mono ?_
  rintro e w1 ⟨g, rfl, hg, hw1, hb1⟩
  have q1 := q0.below hb1 q0.lt
  have r1 := r0.below hb1 r0.lt
  have o1 := o0.below hb1 o0.lt
  have hb1' := hb0.trans (hb1.mono hb0.size)
  have c1 : w1.cell? ⟨w.heap.size, 2, none⟩ = some (.slice A ts.length ac) := q1.cell 2
  have c2 : w1.cell? ⟨w.heap.size + 1 + 1, 1, none⟩ = some (.slice none 0 0) := o1.cell 1
  have c3 : w1.frozen? ⟨w.heap.size + 1 + 1, 1, none⟩ = false := o1.free 1
  have hg1 : w.heap.size + 3 ≤ g := by have := HZ.out; omega
  have hs1 := hb1.size
  clear q0 r0 o0 hsz0
  go_wp2_with fail
  have hw2 := Whole1.set o1 1 (.slice (some ⟨g, 0, none⟩) ls.length ls.length)
  have hb2 : Below w.heap.size w (w1.setCell ⟨w.heap.size + 1 + 1, 1, none⟩ (.slice (some ⟨g, 0, none⟩) ls.length ls.length)) := hb1'.setCell (by simp; omega) _
  have hr2 := Whole1.below (B := w.heap.size + 2) r1 ((Below.refl _ _).setCell (p := ⟨w.heap.size + 1 + 1, 1, none⟩) (by simp) (.slice (some ⟨g, 0, none⟩) ls.length ls.length)) (by omega)
  have hg2 : Whole1 (w1.setCell ⟨w.heap.size + 1 + 1, 1, none⟩ (.slice (some ⟨g, 0, none⟩) ls.length ls.length)) g 9 (strVals ls).toArray := (Below.heap_setCell _ _ _ _ (by simp; omega)).trans hw1
  have hs2 : (w1.setCell ⟨w.heap.size + 1 + 1, 1, none⟩ (.slice (some ⟨g, 0, none⟩) ls.length ls.length)).heap.size = w1.heap.size := by simp [World.setCell]
  have HG := Lib.hid hw1.lt
  clear hw1 r1 o1 q1 c1 c2 c3
  generalize w1.setCell ⟨w.heap.size + 1 + 1, 1, none⟩ (.slice (some ⟨g, 0, none⟩) ls.length ls.length) = w2 at *
  have HZ2 := Lib.hid hs2
  clear hs2
  refine (HT.out w2 (ha.up hb2)).mono ?_
  rintro e w3 ⟨g3, c3, rfl, hg3, ht3, hb3⟩
  have hw3 := hw2.below hb3 hw2.lt
  have hr3 := hr2.below hb3 hr2.lt
  have hl3 := hg2.below hb3 hg2.lt
  have hb3' := hb2.trans (hb3.mono hb2.size)
  have hs3 := hb3.size
  have c4 : w3.cell? ⟨w.heap.size + 1 + 1, 2, none⟩ = some (.slice none 0 0) := hw3.cell 2
  have c5 : w3.frozen? ⟨w.heap.size + 1 + 1, 2, none⟩ = false := hw3.free 2
  have c6 : w3.cell? ⟨w.heap.size + 1 + 1, 0, none⟩ = some (.int .i64 k) := hw3.cell 0
  have c7 : w3.cell? ⟨w.heap.size + 1 + 1, 1, none⟩ = some (.slice (some ⟨g, 0, none⟩) ls.length ls.length) := hw3.cell 1
  have c8 : w3.cell? ⟨w.heap.size + 1, 0, none⟩ = some (.int .i64 0) := hr3.cell 0
  have c9 : w3.cell? ⟨w.heap.size + 1, 1, none⟩ = some (.slice none 0 0) := hr3.cell 1
  have c10 : w3.cell? ⟨w.heap.size + 1, 2, none⟩ = some (.slice none 0 0) := hr3.cell 2
  have c11 : w3.frozen? ⟨w.heap.size + 1, 0, none⟩ = false := hr3.free 0
  have c12 : w3.frozen? ⟨w.heap.size + 1, 1, none⟩ = false := hr3.free 1
  have c13 : w3.frozen? ⟨w.heap.size + 1, 2, none⟩ = false := hr3.free 2
  clear hw2 hr2 hg2 hw3 hr3
  have hgl := hl3.lt
  have hg1w : g < w2.heap.size := by have := HZ2.out; have := HG.out; omega
  go_wp2
  refine bodyPost_ret (v := .agg #[.int .i64 k, .slice (some ⟨g, 0, none⟩) ls.length ls.length, .slice (some ⟨g3, 0, none⟩) ts.length c3]) (by simp [results, Tryz.results20, go_sem, c8, c9, c10]) rfl ⟨_, rfl, ?_, ?_⟩
  · have hk : ∀ b, w.heap.size + 3 ≤ b → ((((w3.setCell ⟨w.heap.size + 1 + 1, 2, none⟩ (.slice (some ⟨g3, 0, none⟩) ts.length c3)).setCell ⟨w.heap.size + 1, 0, none⟩ (.int .i64 k)).setCell ⟨w.heap.size + 1, 1, none⟩ (.slice (some ⟨g, 0, none⟩) ls.length ls.length)).setCell ⟨w.heap.size + 1, 2, none⟩ (.slice (some ⟨g3, 0, none⟩) ts.length c3)).heap[b]? = w3.heap[b]? := fun b h => by
      rw [Below.heap_setCell _ _ _ _ (by simp; omega), Below.heap_setCell _ _ _ _ (by simp; omega), Below.heap_setCell _ _ _ _ (by simp; omega), Below.heap_setCell _ _ _ _ (by simp; omega)]
    have hS : ((((w3.setCell ⟨w.heap.size + 1 + 1, 2, none⟩ (.slice (some ⟨g3, 0, none⟩) ts.length c3)).setCell ⟨w.heap.size + 1, 0, none⟩ (.int .i64 k)).setCell ⟨w.heap.size + 1, 1, none⟩ (.slice (some ⟨g, 0, none⟩) ls.length ls.length)).setCell ⟨w.heap.size + 1, 2, none⟩ (.slice (some ⟨g3, 0, none⟩) ts.length c3)).heap.size = w3.heap.size := by simp [World.setCell]
    rw [hS]
    have h3 : w.heap.size + 3 ≤ w2.heap.size := by have := HZ2.out; have := HZ.out; omega
    refine TyIn.of (t := .mk k ls ts) (Sa := Span w2.heap.size w3.heap.size) hn HN.out (.inr ⟨rfl, ⟨by omega, hgl⟩, RowStrs.same (RowStrs.of_whole hl3) (hk _ hg1)⟩) (ht3.keep fun b hb _ => hk b (by have := hb.1; omega)) fun b hb => ⟨⟨by have := hb.1; omega, hb.2⟩, by have := hb.1; omega⟩
  · exact (((hb3'.setCell (by simp; omega) _).setCell (by simp) _).setCell (by simp) _).setCell (by simp) _

/-- make of a row of elements of sz cells. -/
theorem run_make_elems {P : Program} {T E : TypeId} {z : Value} {sz by8 : Nat} (ht : P.underlying T = some (.slice E)) (hi : (P.info? E).map (fun i => (i.zero, i.size, i.bytes)) = some (some z, sz, by8)) (n : Nat) (hb : (by8 : Int) * n ≤ 281474976710656) (hn : n ≤ 1048576) (w : World) :
    ∃ cs : Array Value, cs.size = n * sz ∧ (Instr.makeSlice T (.int .i64 (n : Int)) (.int .i64 (n : Int))).run P w = .ok (.slice (some ⟨w.heap.size, 0, none⟩) n n) (w.alloc (.cells cs E)) := by
  obtain ⟨i, h1, h2, h3, h4⟩ := info_parts hi
  have hr := run_make (P := P) w T E i _ ht h1 h2 .i64 .i64 n n (by omega) (by omega) (by rw [h4]; exact hb) (by omega)
  simp only [Int.toNat_natCast] at hr
  refine ⟨_, ?_, hr⟩
  rw [size_madeCells, h3]

theorem infoType : (Tryz.prog.info? 27).map (fun i => (i.zero, i.size, i.bytes)) = some (some (.agg #[.int .i64 0, .slice none 0 0, .slice none 0 0]), 3, 56) := by kernel_rfl

theorem boxes1 (w : World) (t1 : TypeId) (a : Array Value) : Below w.heap.size w (w.alloc (.cells a t1)) ∧ Whole1 (w.alloc (.cells a t1)) w.heap.size t1 a ∧ (w.alloc (.cells a t1)).heap.size = w.heap.size + 1 :=
  ⟨(Below.refl _ _).alloc (Nat.le_refl _) _, Whole1.new _ _ _, by simp⟩

/-- Row g of n elements; those below k are made, each in blocks of its own. -/
def Filling (w : World) (lo g n k : Nat) (ts : List Ty) : Prop :=
  ∃ (cs : Array Value) (vs : Nat → Value) (bd : Nat → Nat), Whole1 w g 27 cs ∧ cs.size = n * 3 ∧ (∀ i, i < k → ∀ j, j < 3 → (partAt (vs i) j).isSome = true ∧ cs[i * 3 + j]? = partAt (vs i) j) ∧
    lo ≤ g ∧ g < bd 0 ∧ (∀ i, i < k → bd i ≤ bd (i + 1)) ∧ bd k ≤ w.heap.size ∧ ∀ i, (hi : i < ts.length) → i < k → TyIn w (Span (bd i) (bd (i + 1))) (vs i) ts[i]

theorem bd_mono (bd : Nat → Nat) (k : Nat) (h : ∀ i, i < k → bd i ≤ bd (i + 1)) : ∀ i j, i ≤ j → j ≤ k → bd i ≤ bd j
  | i, 0, h1, _ => by
    have : i = 0 := by omega
    subst this
    exact Nat.le_refl _
  | i, j + 1, h1, h2 => by
    by_cases e : i = j + 1
    · rw [e]
      exact Nat.le_refl _
    · exact Nat.le_trans (bd_mono bd k h i j (by omega) (by omega)) (h j (by omega))

theorem Filling.done {w : World} {lo g : Nat} {ts : List Ty} (h : Filling w lo g ts.length ts.length ts) (hm : ts.length ≤ maxLen) : TysIn w (Span lo w.heap.size) (some ⟨g, 0, none⟩) ts := by
  obtain ⟨cs, vs, bd, h1, h2, h3, h4, h5, h6, h7, h8⟩ := h
  refine ⟨hm, g, vs, fun i => Span (bd i) (bd (i + 1)), .inr ⟨rfl, ⟨h4, h1.lt⟩, cs, h1, h3⟩, fun i hi b hb => ?_, fun i j hi hj hne b hb hb' => ?_, fun i hi => h8 i hi hi⟩
  · have a := bd_mono bd _ h6 0 i (by omega) (by omega)
    have c := bd_mono bd _ h6 (i + 1) ts.length (by omega) (Nat.le_refl _)
    have := hb.1
    have := hb.2
    exact ⟨⟨by omega, by omega⟩, by omega⟩
  · have := hb.1
    have := hb.2
    have := hb'.1
    have := hb'.2
    rcases Nat.lt_or_gt_of_ne hne with hlt | hlt
    · have a := bd_mono bd _ h6 (i + 1) j (by omega) (by omega)
      omega
    · have a := bd_mono bd _ h6 (j + 1) i (by omega) (by omega)
      omega
theorem Filling.below {w w' : World} {lo g n k : Nat} {ts : List Ty} (h : Filling w lo g n k ts) (hb : Below w.heap.size w w') : Filling w' lo g n k ts := by
  obtain ⟨cs, vs, bd, h1, h2, h3, h4, h5, h6, h7, h8⟩ := h
  refine ⟨cs, vs, bd, h1.below hb h1.lt, h2, h3, h4, h5, h6, Nat.le_trans h7 hb.size, fun i hi hk => (h8 i hi hk).keep fun b hB _ => hb.block b ?_⟩
  have := bd_mono bd k h6 (i + 1) k (by omega) (Nat.le_refl _)
  have := hB.2
  omega
/-- The next element is stored. -/
theorem Filling.step {w w' : World} {lo g n k : Nat} {ts : List Ty} {a b c : Value} (h : Filling w lo g n k ts) (hb : Below w.heap.size w w') (hk : k < n) (hkt : k < ts.length) (hv : TyIn w' (Span w.heap.size w'.heap.size) (.agg #[a, b, c]) ts[k]) :
    Filling (((w'.setCell ⟨g, k * 3, none⟩ a).setCell ⟨g, k * 3 + 1, none⟩ b).setCell ⟨g, k * 3 + 2, none⟩ c) lo g n (k + 1) ts := by
  obtain ⟨cs, vs, bd, h1, h2, h3, h4, h5, h6, h7, h8⟩ := h
  have hlt := h1.lt
  have hw := (((h1.below hb hlt).set (k * 3) a).set (k * 3 + 1) b).set (k * 3 + 2) c
  have hsz := hb.size
  have hk' : ∀ q, q ≠ g → (((w'.setCell ⟨g, k * 3, none⟩ a).setCell ⟨g, k * 3 + 1, none⟩ b).setCell ⟨g, k * 3 + 2, none⟩ c).heap[q]? = w'.heap[q]? := fun q hq => by
    rw [Below.heap_setCell _ _ _ _ hq, Below.heap_setCell _ _ _ _ hq, Below.heap_setCell _ _ _ _ hq]
  have hS : (((w'.setCell ⟨g, k * 3, none⟩ a).setCell ⟨g, k * 3 + 1, none⟩ b).setCell ⟨g, k * 3 + 2, none⟩ c).heap.size = w'.heap.size := by simp [World.setCell]
  generalize ((w'.setCell ⟨g, k * 3, none⟩ a).setCell ⟨g, k * 3 + 1, none⟩ b).setCell ⟨g, k * 3 + 2, none⟩ c = W at *
  have hg0 : ∀ i, i ≤ k → g < bd i := fun i hi => Nat.lt_of_lt_of_le h5 (bd_mono bd k h6 0 i (by omega) hi)
  refine ⟨_, fun j => if j = k then .agg #[a, b, c] else vs j, fun j => if j ≤ k then bd j else w'.heap.size, hw, by simp [h2], fun i hi j hj => ?_, h4, by simpa using h5, fun i hi => ?_, ?_, fun i hi hik => ?_⟩
  · dsimp only
    have hb3 : k * 3 + 2 < cs.size := by omega
    by_cases e : i = k
    · subst e
      rw [if_pos rfl]
      simp only [Array.getElem?_setIfInBounds, Array.size_setIfInBounds]
      have : j = 0 ∨ j = 1 ∨ j = 2 := by omega
      rcases this with rfl | rfl | rfl
      · simp [partAt]; omega
      · simp [partAt]; omega
      · simp [partAt]; omega
    · rw [if_neg e]
      have hh := h3 i (by omega) j hj
      refine ⟨hh.1, ?_⟩
      rw [← hh.2]
      simp only [Array.getElem?_setIfInBounds, Array.size_setIfInBounds]
      rw [if_neg (by omega), if_neg (by omega), if_neg (by omega)]
  · dsimp only
    by_cases e : i = k
    · subst e
      rw [if_pos (Nat.le_refl _), if_neg (by omega)]
      omega
    · rw [if_pos (by omega), if_pos (by omega)]
      exact h6 i (by omega)
  · dsimp only
    rw [if_neg (by omega), hS]
    exact Nat.le_refl _
  · dsimp only
    by_cases e : i = k
    · subst e
      rw [if_pos rfl, if_pos (Nat.le_refl _), if_neg (by omega)]
      refine (hv.wide fun q hq => ⟨by have := hq.1; omega, hq.2⟩).keep fun q hq _ => hk' q ?_
      have := hq.1
      have := hg0 i (Nat.le_refl _)
      omega
    · rw [if_neg e, if_pos (by omega), if_pos (by omega)]
      refine (h8 i hi (by omega)).keep fun q hq _ => ?_
      have e1 := hq.1
      have e2 := hq.2
      have e3 := hg0 i (by omega)
      have e4 := bd_mono bd k h6 (i + 1) k (by omega) (Nat.le_refl _)
      rw [hk' q (by omega)]
      exact hb.block q (by omega)

end Go.Proofs.YthdfidhijmcbdaaGreatDoor
