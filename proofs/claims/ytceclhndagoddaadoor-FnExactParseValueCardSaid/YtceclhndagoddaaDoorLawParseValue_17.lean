/- Lemmas: RVal, RCase, RLoop. -/
import Derived.Test.YtceclhndagoddaaDoorLawParseValue_16
import Derived.Test.YtceclhndagoddaaDoorLawParseValue_10
import Derived.Deep.RegionHeld3
import Derived.Deep.DrawnRows
import Derived.OrdersIn
import Derived.RegionIn

section
namespace Go.Proofs.YtceclhndagoddaaDoor
open Go Go.RowKit

/-- A digit or a minus stands ahead. -/
def HeadI (r : List UInt8) : Prop := ∃ c q, r = c :: q ∧ intC c = true
theorem eat_head {c : UInt8} {r : List UInt8} (hc : intC c = false) (h : HeadI r) : eat c r = none := by
  obtain ⟨d, q, rfl, hd⟩ := h
  refine eat_other _ fun e => ?_
  rw [e, hc] at hd
  cases hd
/-- What is read can be no part of a value of at most m nodes. -/
def Bad {β : Type} (good : β → Bool) (sz : β → Nat) (m : Nat) (x : Option (β × List UInt8)) : Prop := ∀ b r, x = some (b, r) → good b = false ∨ m < sz b ∨ HeadI r
abbrev BadV (m : Nat) (x : Option (Va × List UInt8)) : Prop := Bad formVa sizeVa m x
theorem Bad.none {β : Type} (good : β → Bool) (sz : β → Nat) (m : Nat) : Bad good sz m none := fun _ _ h => by cases h

/-- What ParseInt reads numbers by. -/
structure NumsAt (w : World) (B : Nat) : Prop where
  pow : Pow10At w
  errs : ErrsAt w
  b1 : 3 < B
  b2 : 1 < B
  b3 : 2 < B
theorem NumsAt.below {w w' : World} {B : Nat} (h : NumsAt w B) (hb : Below B w w') : NumsAt w' B := ⟨h.pow.below hb h.b1, h.errs.below hb ⟨h.b2, h.b3⟩, h.b1, h.b2, h.b3⟩

/-- A reader of values: its variables, its struct in block pr, with m nodes left. -/
structure VR (B : Nat) (w : World) (ps pa pr : Nat) (s : ByteArray) (j m : Nat) : Prop where
  rd : RAt w ps pa s j
  obj : Whole1 w pr 58 #[rdAcc ps pa, rdTak ps pa, rdEnd ps pa, .int .i64 (m : Int)]
  nums : NumsAt w B
  ns : pr ≠ ps
  na : pr ≠ pa
  ls : B ≤ ps
  la : B ≤ pa
  lr : B ≤ pr
/-- The blocks that reading turns. -/
def vrX (pa pr : Nat) : Nat → Prop := fun i => i = pa ∨ i = pr
section
variable {B : Nat} {w w' : World} {ps pa pr j j' m m' : Nat} {s : ByteArray}
theorem VR.ltr (h : VR B w ps pa pr s j m) : pr < w.heap.size := Whole1.lt h.obj
theorem VR.lts (h : VR B w ps pa pr s j m) : ps < w.heap.size := h.rd.lts
theorem VR.lta (h : VR B w ps pa pr s j m) : pa < w.heap.size := h.rd.lta
theorem VR.below {C : Nat} (h : VR B w ps pa pr s j m) (hb : Below C w w') (h1 : ps < C) (h2 : pa < C) (h3 : pr < C) : VR B w' ps pa pr s j m :=
  ⟨h.rd.below hb h1 h2, h.obj.below hb h3, h.nums.below (hb.mono (by have := h.ls; omega)), h.ns, h.na, h.ls, h.la, h.lr⟩
theorem VR.keep (h : VR B w ps pa pr s j m) (hb : Below w.heap.size w w') : VR B w' ps pa pr s j m := h.below hb h.lts h.lta h.ltr
theorem VR.drew (h : VR B w ps pa pr s j m) : VR B w.drew ps pa pr s j m := h.keep (Below.refl w.heap.size w).drew
theorem VR.read (h : VR B w ps pa pr s j m) (hr : RAt w' ps pa s j') (hg : w.grownBy w' (some pa)) : VR B w' ps pa pr s j' m := by
  have hla := h.la
  have hlt := h.lta
  have hb : Below B w w' := ⟨hg.os, hg.tape, hg.output, hg.size, fun i hi => hg.block i (by omega) (fun e => by injection e with e; omega)⟩
  exact ⟨hr, (hg.block _ h.ltr (fun e => by injection e with e; exact h.na e)).trans h.obj, h.nums.below hb, h.ns, h.na, h.ls, h.la, h.lr⟩
theorem VR.put (h : VR B w ps pa pr s j m) (m' : Nat) : VR B (w.setCell ⟨pr, 3, none⟩ (.int .i64 (m' : Int))) ps pa pr s j m' := by
  have hb : Below pr w (w.setCell ⟨pr, 3, none⟩ (.int .i64 (m' : Int))) := (Below.refl pr w).setCell (p := ⟨pr, 3, none⟩) (Nat.le_refl _) _
  exact ⟨⟨(Below.heap_setCell _ _ _ _ h.ns.symm).trans h.rd.str, (Below.heap_setCell _ _ _ _ h.na.symm).trans h.rd.place, h.rd.ne, h.rd.le⟩, Whole1.set h.obj 3 _, h.nums.below (hb.mono h.lr), h.ns, h.na, h.ls, h.la, h.lr⟩
/-- Behind all that is turned: a block that is none of the reader's stands. -/
theorem turn_stays {t : TypeId} {cs : Array Value} {r : Nat} (hT : Turn (vrX pa pr) w w') (h : Whole1 w r t cs) (h1 : r ≠ pa) (h2 : r ≠ pr) : Whole1 w' r t cs :=
  (hT.block _ h.lt (fun e => e.elim h1 h2)).trans h
theorem turn_low {C : Nat} (hT : Turn (vrX pa pr) w w') (h1 : C ≤ pa) (h2 : C ≤ pr) (hw : C ≤ w.heap.size) : Below C w w' :=
  ⟨hT.os, hT.tape, hT.output, hT.size, fun i hi => hT.block i (by omega) (fun e => by rcases e with e | e <;> omega)⟩
end

/-- What readValue does, x being what the text reads as. -/
def ValPost (B ps pa pr : Nat) (s : ByteArray) (m : Nat) (w : World) (x : Option (Va × List UInt8)) (e : Ending) (w' : World) : Prop :=
  ∃ (k n : Int) (nm : ByteArray) (L : Option Addr) (nl lc : Nat) (A : Option Addr) (na ac : Nat) (ok : Bool) (j' m' : Nat), e = .returned (.tuple #[.agg #[.int .i64 k, .int .i64 n, .string nm, .slice L nl lc, .slice A na ac], .bool ok]) ∧ VR B w' ps pa pr s j' m' ∧ Turn (vrX pa pr) w w' ∧
    ((ok = false ∧ BadV m x) ∨ (ok = true ∧ ∃ t, x = some (t, restOf s j') ∧ sizeVa t ≤ m ∧ m' = m - sizeVa t ∧ OwnVa w' w.heap.size (.agg #[.int .i64 k, .int .i64 n, .string nm, .slice L nl lc, .slice A na ac]) t))
/-- readValue, with m nodes left, over n levels of the model's. -/
def ValR (n m : Nat) : Prop := ∀ (B : Nat) (w : World) (ps pa pr j : Nat) (s : ByteArray), VR B w ps pa pr s j m → s.size ≤ 1048576 →
  Calls Tryd.prog 29 #[.pointer (some ⟨pr, 0, none⟩)] w (ValPost B ps pa pr s m w (rdVa n (restOf s j)))
/-- What readField and readElement do. -/
def PartPost {β : Type} (lab : β → ByteArray) (val : β → Va) (B ps pa pr : Nat) (s : ByteArray) (m : Nat) (w : World) (x : Option (β × List UInt8)) (e : Ending) (w' : World) : Prop :=
  ∃ (l0 : ByteArray) (k n : Int) (nm : ByteArray) (L : Option Addr) (nl lc : Nat) (A : Option Addr) (na ac : Nat) (ok : Bool) (j' m' : Nat), e = .returned (.tuple #[.agg #[.string l0, .int .i64 k, .int .i64 n, .string nm, .slice L nl lc, .slice A na ac], .bool ok]) ∧ VR B w' ps pa pr s j' m' ∧ Turn (vrX pa pr) w w' ∧
    ((ok = false ∧ Bad (fun b => formVa (val b)) (fun b => sizeVa (val b)) m x) ∨ (ok = true ∧ ∃ b, x = some (b, restOf s j') ∧ lab b = l0 ∧ l0.size ≤ 1048576 ∧ sizeVa (val b) ≤ m ∧ m' = m - sizeVa (val b) ∧ OwnVa w' w.heap.size (.agg #[.int .i64 k, .int .i64 n, .string nm, .slice L nl lc, .slice A na ac]) (val b)))

theorem set6_kept (w : World) (r : Nat) (a b c d e f : Value) (g : Nat) (hg : g ≠ r) : ((((((w.setCell ⟨r, 0, none⟩ a).setCell ⟨r, 1, none⟩ b).setCell ⟨r, 2, none⟩ c).setCell ⟨r, 3, none⟩ d).setCell ⟨r, 4, none⟩ e).setCell ⟨r, 5, none⟩ f).heap[g]? = w.heap[g]? := by
  rw [Below.heap_setCell _ _ _ _ hg, Below.heap_setCell _ _ _ _ hg, Below.heap_setCell _ _ _ _ hg, Below.heap_setCell _ _ _ _ hg, Below.heap_setCell _ _ _ _ hg, Below.heap_setCell _ _ _ _ hg]
theorem set6_below (w : World) (r : Nat) (a b c d e f : Value) : Below r w ((((((w.setCell ⟨r, 0, none⟩ a).setCell ⟨r, 1, none⟩ b).setCell ⟨r, 2, none⟩ c).setCell ⟨r, 3, none⟩ d).setCell ⟨r, 4, none⟩ e).setCell ⟨r, 5, none⟩ f) :=
  ((((((Below.refl r w).setCell (p := ⟨r, 0, none⟩) (Nat.le_refl _) _).setCell (p := ⟨r, 1, none⟩) (Nat.le_refl _) _).setCell (p := ⟨r, 2, none⟩) (Nat.le_refl _) _).setCell (p := ⟨r, 3, none⟩) (Nat.le_refl _) _).setCell (p := ⟨r, 4, none⟩) (Nat.le_refl _) _).setCell (p := ⟨r, 5, none⟩) (Nat.le_refl _) _
theorem OwnVa.set6 {w : World} {base : Nat} {v : Value} {t : Va} (h : OwnVa w base v t) (r : Nat) (hr : r < base) (a b c d e f : Value) : OwnVa ((((((w.setCell ⟨r, 0, none⟩ a).setCell ⟨r, 1, none⟩ b).setCell ⟨r, 2, none⟩ c).setCell ⟨r, 3, none⟩ d).setCell ⟨r, 4, none⟩ e).setCell ⟨r, 5, none⟩ f) base v t :=
  h.keep (set6_below w r a b c d e f).size fun g hg _ => set6_kept _ _ _ _ _ _ _ _ _ (by omega)

set_option maxHeartbeats 4000000 in
set_option maxRecDepth 100000 in
theorem readElement_any (n m : Nat) (H : ValR n m) (B : Nat) (w : World) (ps pa pr j : Nat) (s : ByteArray) (hv : VR B w ps pa pr s j m) (hs : s.size ≤ 1048576) :
    Calls Tryd.prog 114 #[.pointer (some ⟨pr, 0, none⟩)] w (PartPost (fun _ => ⟨#[]⟩) (fun t => t) B ps pa pr s m w (rdVa n (restOf s j))) := by
  have hl1 := hv.lts
  have hl2 := hv.lta
  have hl3 := hv.ltr
  obtain ⟨hb0, z0, hs0⟩ := boxes1 w 145 #[.string ⟨#[]⟩, .int .i64 0, .int .i64 0, .string ⟨#[]⟩, .slice none 0 0, .slice none 0 0]
  have hv0 := hv.keep hb0
  have HC := Lib.hid (H B _ ps pa pr j s hv0 hs)
  have HB0 := Lib.hid hb0
  have HZ0 := Lib.hid z0
  have HS0 := Lib.hid hs0
  clear H hv hv0 hb0 z0 hs0
  go_enter Tryd.func114, Tryd.ntmps114
  go_wp2_with fail
  generalize w.alloc (.cells #[.string ⟨#[]⟩, .int .i64 0, .int .i64 0, .string ⟨#[]⟩, .slice none 0 0, .slice none 0 0] 145) = wa at *
  refine HC.out.mono ?_
  rintro e w3 ⟨k, n0, nm, L, nl, lc, A, na, ac, ok, j3, m3, rfl, hv3, hT3, hor⟩
  have z3 := turn_stays hT3 HZ0.out (by omega) (by omega)
  have hwl : w.heap.size < wa.heap.size := HZ0.out.lt
  have HV3 := Lib.hid hv3
  have HT3 := Lib.hid ((Turn.of_below HB0.out).trans hT3)
  have HZ3 := Lib.hid z3
  have HOR := Lib.hid hor
  have hsz3 := hT3.size
  clear hv3 hT3 z3 hor HC HB0 HZ0 HS0
  go_upto_region 2 with fail
  have HQ4 := Lib.hid (Whole1.new w3 25 #[.int .i64 k, .int .i64 n0, .string nm, .slice L nl lc, .slice A na ac])
  have hb4 := (Below.refl w3.heap.size w3).alloc (Nat.le_refl _) (.cells #[.int .i64 k, .int .i64 n0, .string nm, .slice L nl lc, .slice A na ac] 25)
  have HV4 := Lib.hid (HV3.out.keep hb4)
  have HT4 := Lib.hid (HT3.out.below hb4 HT3.out.size)
  have HZ4 := Lib.hid (HZ3.out.below hb4 HZ3.out.lt)
  have HB4 := Lib.hid hb4
  clear hb4 HV3 HT3 HZ3
  generalize w3.alloc (.cells #[.int .i64 k, .int .i64 n0, .string nm, .slice L nl lc, .slice A na ac] 25) = w4 at *
  have q0 : w4.cell? ⟨w3.heap.size, 0, none⟩ = some (.int .i64 k) := HQ4.out.cell 0
  have q1 : w4.cell? ⟨w3.heap.size, 1, none⟩ = some (.int .i64 n0) := HQ4.out.cell 1
  have q2 : w4.cell? ⟨w3.heap.size, 2, none⟩ = some (.string nm) := HQ4.out.cell 2
  have q3 : w4.cell? ⟨w3.heap.size, 3, none⟩ = some (.slice L nl lc) := HQ4.out.cell 3
  have q4 : w4.cell? ⟨w3.heap.size, 4, none⟩ = some (.slice A na ac) := HQ4.out.cell 4
  have d0 : w4.cell? ⟨w.heap.size, 0, none⟩ = some (.string ⟨#[]⟩) := HZ4.out.cell 0
  have d1 : w4.cell? ⟨w.heap.size, 1, none⟩ = some (.int .i64 0) := HZ4.out.cell 1
  have d2 : w4.cell? ⟨w.heap.size, 2, none⟩ = some (.int .i64 0) := HZ4.out.cell 2
  have d3 : w4.cell? ⟨w.heap.size, 3, none⟩ = some (.string ⟨#[]⟩) := HZ4.out.cell 3
  have d4 : w4.cell? ⟨w.heap.size, 4, none⟩ = some (.slice none 0 0) := HZ4.out.cell 4
  have d5 : w4.cell? ⟨w.heap.size, 5, none⟩ = some (.slice none 0 0) := HZ4.out.cell 5
  have f0 : w4.frozen? ⟨w.heap.size, 0, none⟩ = false := HZ4.out.free 0
  have f1 : w4.frozen? ⟨w.heap.size, 1, none⟩ = false := HZ4.out.free 1
  have f2 : w4.frozen? ⟨w.heap.size, 2, none⟩ = false := HZ4.out.free 2
  have f3 : w4.frozen? ⟨w.heap.size, 3, none⟩ = false := HZ4.out.free 3
  have f4 : w4.frozen? ⟨w.heap.size, 4, none⟩ = false := HZ4.out.free 4
  have f5 : w4.frozen? ⟨w.heap.size, 5, none⟩ = false := HZ4.out.free 5
  go_wp2
  refine bodyPost_ret (v := .tuple #[.agg #[.string ⟨#[]⟩, .int .i64 k, .int .i64 n0, .string nm, .slice L nl lc, .slice A na ac], .bool ok]) (by simp [results, Tryd.results114, go_sem, d0, d1, d2, d3, d4, d5]) rfl ⟨⟨#[]⟩, k, n0, nm, L, nl, lc, A, na, ac, ok, j3, m3, rfl, HV4.out.below (set6_below _ _ _ _ _ _ _ _) hl1 hl2 hl3, HT4.out.below (set6_below _ _ _ _ _ _ _ _) (Nat.le_refl _), ?_⟩
  rcases HOR.out with ⟨h1, h2⟩ | ⟨h1, t, h2, h3, h4, h5⟩
  · exact Or.inl ⟨h1, h2⟩
  · exact Or.inr ⟨h1, t, h2, rfl, by decide, h3, h4, ((h5.keep HB4.out.size fun g _ hg => HB4.out.block g hg).set6 _ hwl _ _ _ _ _ _).base (by omega)⟩

end Go.Proofs.YtceclhndagoddaaDoor
end

section
namespace Go.Proofs.YtceclhndagoddaaDoor
open Go Go.RowKit
attribute [local go_sem ↓] Go.wp_at_zero Go.wp_at_succ

theorem tag_none {f : List UInt8 → Option (Va × List UInt8)} {l : List UInt8} (h : eat 32 (l.dropWhile wordC) = none) : rdTag f l = none := by
  unfold rdTag
  rw [h]
theorem tag_bad {f : List UInt8 → Option (Va × List UInt8)} {l r : List UInt8} {m : Nat} (h : eat 32 (l.dropWhile wordC) = some r) (hb : BadV m (f r)) : BadV (m + 1) (rdTag f l) := by
  intro b q hx
  unfold rdTag at hx
  rw [h] at hx
  simp only at hx
  cases hf : f r with
  | none =>
    rw [hf] at hx
    cases hx
  | some pr =>
    obtain ⟨t, q0⟩ := pr
    rw [hf] at hx
    simp only at hx
    cases h62 : eat 62 q0 with
    | none =>
      rw [h62] at hx
      cases hx
    | some q2 =>
      rw [h62] at hx
      simp only [Option.some.injEq, Prod.mk.injEq] at hx
      obtain ⟨rfl, rfl⟩ := hx
      rcases hb _ _ hf with h1 | h1 | h1
      · exact Or.inl (by rw [formVa, formVas, h1]; rfl)
      · exact Or.inr (Or.inl (by rw [sizeVa, sizeVas, sizeVas]; omega))
      · rw [eat_head (by decide) h1] at h62
        cases h62
theorem tag_stop {f : List UInt8 → Option (Va × List UInt8)} {l r q : List UInt8} {t : Va} (h : eat 32 (l.dropWhile wordC) = some r) (hf : f r = some (t, q)) (h2 : eat 62 q = none) : rdTag f l = none := by
  unfold rdTag
  rw [h]
  simp only [hf, h2]
theorem tag_some {f : List UInt8 → Option (Va × List UInt8)} {l r q q2 : List UInt8} {t : Va} (h : eat 32 (l.dropWhile wordC) = some r) (hf : f r = some (t, q)) (h2 : eat 62 q = some q2) : rdTag f l = some (.mk 4 0 ⟨(l.takeWhile wordC).toArray⟩ [] [t], q2) := by
  unfold rdTag
  rw [h]
  simp only [hf, h2]

theorem set5_cell (w : World) (r : Nat) (a b c d e : Value) (g i : Nat) (hg : g ≠ r) : (((((w.setCell ⟨r, 0, none⟩ a).setCell ⟨r, 1, none⟩ b).setCell ⟨r, 2, none⟩ c).setCell ⟨r, 3, none⟩ d).setCell ⟨r, 4, none⟩ e).cell? ⟨g, i, none⟩ = w.cell? ⟨g, i, none⟩ := by
  rw [World.cell?_setCell_far _ _ _ _ (fun e => hg e.symm), World.cell?_setCell_far _ _ _ _ (fun e => hg e.symm), World.cell?_setCell_far _ _ _ _ (fun e => hg e.symm), World.cell?_setCell_far _ _ _ _ (fun e => hg e.symm), World.cell?_setCell_far _ _ _ _ (fun e => hg e.symm)]
theorem set5_below (w : World) (r : Nat) (a b c d e : Value) : Below r w (((((w.setCell ⟨r, 0, none⟩ a).setCell ⟨r, 1, none⟩ b).setCell ⟨r, 2, none⟩ c).setCell ⟨r, 3, none⟩ d).setCell ⟨r, 4, none⟩ e) :=
  (((((Below.refl r w).setCell (p := ⟨r, 0, none⟩) (Nat.le_refl _) _).setCell (p := ⟨r, 1, none⟩) (Nat.le_refl _) _).setCell (p := ⟨r, 2, none⟩) (Nat.le_refl _) _).setCell (p := ⟨r, 3, none⟩) (Nat.le_refl _) _).setCell (p := ⟨r, 4, none⟩) (Nat.le_refl _) _
theorem OwnVa.set5 {w : World} {base : Nat} {v : Value} {t : Va} (h : OwnVa w base v t) (r : Nat) (hr : r < base) (a b c d e : Value) : OwnVa (((((w.setCell ⟨r, 0, none⟩ a).setCell ⟨r, 1, none⟩ b).setCell ⟨r, 2, none⟩ c).setCell ⟨r, 3, none⟩ d).setCell ⟨r, 4, none⟩ e) base v t :=
  h.keep (set5_below w r a b c d e).size fun g hg _ => set5_keep _ _ _ _ _ _ _ _ (by omega)
/-- A node over one tree that lies there. -/
theorem own_one {w1 : World} {base lo0 hi0 : Nat} {a b c d e : Value} {t : Va} (k n : Int) (nm : ByteArray) (hnm : nm.size ≤ maxLen) (hb : base ≤ lo0) (hl : lo0 ≤ w1.heap.size) (hs : hi0 ≤ w1.heap.size) (ht : VaIn w1 (Span lo0 hi0) (.agg #[a, b, c, d, e]) t) :
    ∃ xs vs lo hi, OwnVAt (w1.alloc (.cells #[a, b, c, d, e] 25)) base none 0 (some ⟨w1.heap.size, 0, none⟩) 1 (.mk k n nm [] [t]) xs vs lo hi := by
  obtain ⟨xs, vs, lo, hi, hG⟩ := vgather_one hb hl (ht.wide fun b hb => ⟨hb.1, by have := hb.2; omega⟩)
  exact ⟨xs, vs, lo, hi, hnm, fun i h => absurd h (by simp [Va.labels]), by unfold maxLen; simp [Va.args], World.ownsRow_nil _ _ _ 1, hG, fun gl h => by cases h⟩
theorem grown_undrew {w w' : World} {p : Option Nat} (h : w.drew.grownBy w' p) : w.grownBy w' p := ⟨h.os, h.tape, h.output, h.size, h.block⟩

set_option maxHeartbeats 8000000 in
set_option maxRecDepth 100000 in
theorem readCase_any (n m : Nat) (H : ValR n m) (B : Nat) (w : World) (ps pa pr j : Nat) (s : ByteArray) (hv : VR B w ps pa pr s j m) (hs : s.size ≤ 1048576) :
    Calls Tryd.prog 75 #[.pointer (some ⟨pr, 0, none⟩)] w (ValPost B ps pa pr s (m + 1) w (rdTag (rdVa n) (restOf s j))) := by
  have hl1 := hv.lts
  have hl2 := hv.lta
  have hl3 := hv.ltr
  obtain ⟨hb0, z0, hs0⟩ := boxes1 w 25 #[.int .i64 0, .int .i64 0, .string ⟨#[]⟩, .slice none 0 0, .slice none 0 0]
  have HV0 := Lib.hid (hv.keep hb0)
  have HB0 := Lib.hid hb0
  have HZ0 := Lib.hid z0
  have HVR := Lib.hid H
  clear H hv hb0 z0 hs0
  go_enter Tryd.func75, Tryd.ntmps75
  go_upto_region 1 with fail
  generalize w.alloc (.cells #[.int .i64 0, .int .i64 0, .string ⟨#[]⟩, .slice none 0 0, .slice none 0 0] 25) = wa at *
  have hwl : w.heap.size < wa.heap.size := HZ0.out.lt
  have HC := Lib.hid (takeRun_any 113 enters_name nameR wordC nameR_byte nameR_high pred_name ps pa j s wa HV0.out.rd hs)
  have b0 : wa.cell? ⟨pr, 0, none⟩ = some (rdAcc ps pa) := HV0.out.obj.cell 0
  have b1 : wa.cell? ⟨pr, 1, none⟩ = some (rdTak ps pa) := HV0.out.obj.cell 1
  have b2 : wa.cell? ⟨pr, 2, none⟩ = some (rdEnd ps pa) := HV0.out.obj.cell 2
  go_wp2_with fail
  refine HC.out.mono ?_
  rintro e w1 ⟨k1, hk1, ⟨rfl, hr1, hg1⟩, hd1, ht1⟩
  have HV1 := Lib.hid (HV0.out.read hr1 hg1)
  have hT1 := Turn.of_grown hg1 (X := vrX pa pr) (Or.inl rfl)
  have HT1 := Lib.hid ((Turn.of_below HB0.out).trans hT1)
  have HZ1 := Lib.hid (turn_stays hT1 HZ0.out (by omega) (by omega))
  have hsz1 := hT1.size
  have hwz : (s.extract j k1).size ≤ 1048576 := by rw [ByteArray.size_extract]; omega
  have HD1 := Lib.hid (And.intro hd1 ht1)
  clear hr1 hg1 hT1 HC HV0 HB0 HZ0 hd1 ht1 b0 b1 b2
  have b0 : w1.cell? ⟨pr, 0, none⟩ = some (rdAcc ps pa) := HV1.out.obj.cell 0
  have b1 : w1.cell? ⟨pr, 1, none⟩ = some (rdTak ps pa) := HV1.out.obj.cell 1
  have b2 : w1.cell? ⟨pr, 2, none⟩ = some (rdEnd ps pa) := HV1.out.obj.cell 2
  cases hx : eat 32 (restOf s k1) with
  | none =>
    have HX := Lib.hid (tag_none (f := rdVa n) (l := restOf s j) (by rw [HD1.out.1]; exact hx))
    have HC := Lib.hid (accE_no ps pa k1 s ⟨#[32]⟩ w1 HV1.out.rd ((eats_one 32 _).trans hx))
    clear hx
    go_wp2_with fail
    refine HC.out.mono ?_
    rintro e w2 ⟨rfl, hr2, hg2⟩
    have hT2 := Turn.of_grown hg2 (X := vrX pa pr) (Or.inl rfl)
    have HV2 := Lib.hid (HV1.out.read hr2 hg2)
    have HT2 := Lib.hid (HT1.out.trans hT2)
    have HZ2 := Lib.hid (turn_stays hT2 HZ1.out (by omega) (by omega))
    clear hr2 hg2 hT2 HC HV1 HT1 HZ1 b0 b1 b2
    have d0 : w2.cell? ⟨w.heap.size, 0, none⟩ = some (.int .i64 0) := HZ2.out.cell 0
    have d1 : w2.cell? ⟨w.heap.size, 1, none⟩ = some (.int .i64 0) := HZ2.out.cell 1
    have d2 : w2.cell? ⟨w.heap.size, 2, none⟩ = some (.string ⟨#[]⟩) := HZ2.out.cell 2
    have d3 : w2.cell? ⟨w.heap.size, 3, none⟩ = some (.slice none 0 0) := HZ2.out.cell 3
    have d4 : w2.cell? ⟨w.heap.size, 4, none⟩ = some (.slice none 0 0) := HZ2.out.cell 4
    have f0 : w2.frozen? ⟨w.heap.size, 0, none⟩ = false := HZ2.out.free 0
    have f1 : w2.frozen? ⟨w.heap.size, 1, none⟩ = false := HZ2.out.free 1
    have f2 : w2.frozen? ⟨w.heap.size, 2, none⟩ = false := HZ2.out.free 2
    have f3 : w2.frozen? ⟨w.heap.size, 3, none⟩ = false := HZ2.out.free 3
    have f4 : w2.frozen? ⟨w.heap.size, 4, none⟩ = false := HZ2.out.free 4
    go_wp2
    exact bodyPost_ret (v := .tuple #[.agg #[.int .i64 0, .int .i64 0, .string ⟨#[]⟩, .slice none 0 0, .slice none 0 0], .bool false]) (by simp [results, Tryd.results75, go_sem, d0, d1, d2, d3, d4]) rfl ⟨0, 0, ⟨#[]⟩, none, 0, 0, none, 0, 0, false, _, _, rfl, HV2.out.below (set5_below _ _ _ _ _ _ _) hl1 hl2 hl3, HT2.out.below (set5_below _ _ _ _ _ _ _) (Nat.le_refl _), Or.inl ⟨rfl, by rw [HX.out]; exact Bad.none _ _ _⟩⟩
  | some q1 =>
    have hx1 := (eats_one 32 _).trans hx
    obtain ⟨hle1, rfl⟩ := eats_rest (p := ⟨#[32]⟩) HV1.out.rd.le hx1
    have HX := Lib.hid (show eat 32 ((restOf s j).dropWhile wordC) = some (restOf s (k1 + (⟨#[32]⟩ : ByteArray).size)) by rw [HD1.out.1]; exact hx)
    have HC := Lib.hid (accE_yes ps pa k1 s ⟨#[32]⟩ _ w1 HV1.out.rd hs hx1)
    clear hx hx1
    generalize k1 + (⟨#[32]⟩ : ByteArray).size = k2 at *
    go_wp2_with fail
    refine HC.out.mono ?_
    rintro e w2 ⟨rfl, hr2, hg2⟩
    have hT2 := Turn.of_grown hg2 (X := vrX pa pr) (Or.inl rfl)
    have HV2 := Lib.hid (HV1.out.read hr2 hg2)
    have HT2 := Lib.hid (HT1.out.trans hT2)
    have HZ2 := Lib.hid (turn_stays hT2 HZ1.out (by omega) (by omega))
    have hsz2 := hT2.size
    have HCV := Lib.hid (HVR.out B w2 ps pa pr k2 s HV2.out hs)
    clear hr2 hg2 hT2 HC HV1 HT1 HZ1 b0 b1 b2
    go_wp2_with fail
    refine HCV.out.mono ?_
    rintro e w3 ⟨k, n0, nm, L, nl, lc, A, na, ac, ok, j3, m3, rfl, hv3, hT3, hor⟩
    have HV3 := Lib.hid hv3
    have HT3 := Lib.hid (HT2.out.trans hT3)
    have HZ3 := Lib.hid (turn_stays hT3 HZ2.out (by omega) (by omega))
    have HOR := Lib.hid hor
    have hsz3 := hT3.size
    clear hv3 hT3 hor HCV HV2 HT2 HZ2
    go_upto_region 5 with fail
    have HQ4 := Lib.hid (Whole1.new w3 25 #[.int .i64 k, .int .i64 n0, .string nm, .slice L nl lc, .slice A na ac])
    have hb4 := (Below.refl w3.heap.size w3).alloc (Nat.le_refl _) (.cells #[.int .i64 k, .int .i64 n0, .string nm, .slice L nl lc, .slice A na ac] 25)
    have HV4 := Lib.hid (HV3.out.keep hb4)
    have HT4 := Lib.hid (HT3.out.below hb4 HT3.out.size)
    have HZ4 := Lib.hid (HZ3.out.below hb4 HZ3.out.lt)
    have HB4 := Lib.hid hb4
    have hz4 : (w3.alloc (.cells #[.int .i64 k, .int .i64 n0, .string nm, .slice L nl lc, .slice A na ac] 25)).heap.size = w3.heap.size + 1 := by simp
    clear hb4 HV3 HT3 HZ3
    generalize w3.alloc (.cells #[.int .i64 k, .int .i64 n0, .string nm, .slice L nl lc, .slice A na ac] 25) = w4 at *
    have q0 : w4.cell? ⟨w3.heap.size, 0, none⟩ = some (.int .i64 k) := HQ4.out.cell 0
    have q1 : w4.cell? ⟨w3.heap.size, 1, none⟩ = some (.int .i64 n0) := HQ4.out.cell 1
    have q2 : w4.cell? ⟨w3.heap.size, 2, none⟩ = some (.string nm) := HQ4.out.cell 2
    have q3 : w4.cell? ⟨w3.heap.size, 3, none⟩ = some (.slice L nl lc) := HQ4.out.cell 3
    have q4 : w4.cell? ⟨w3.heap.size, 4, none⟩ = some (.slice A na ac) := HQ4.out.cell 4
    have q5 : w4.cell? ⟨pr, 0, none⟩ = some (rdAcc ps pa) := HV4.out.obj.cell 0
    have hba := (Below.refl w4.heap.size w4).alloc (Nat.le_refl _) (.cells #[.int .i64 k, .int .i64 n0, .string nm, .slice L nl lc, .slice A na ac] 25)
    have HVa := Lib.hid (HV4.out.keep hba)
    have HTa := Lib.hid (HT4.out.below hba HT4.out.size)
    have HZa := Lib.hid (HZ4.out.below hba HZ4.out.lt)
    have HQa := Lib.hid (HQ4.out.below hba HQ4.out.lt)
    clear hba
    rcases HOR.out with ⟨rfl, hbad⟩ | ⟨rfl, t, hx3, hsz, rfl, hO⟩
    · have HBAD := Lib.hid (tag_bad HX.out hbad)
      have HV5 := Lib.hid HVa.out.drew
      have HT5 := Lib.hid HTa.out.drew
      clear hbad
      have d0 : (w4.alloc (.cells #[.int .i64 k, .int .i64 n0, .string nm, .slice L nl lc, .slice A na ac] 25)).cell? ⟨w.heap.size, 0, none⟩ = some (.int .i64 0) := HZa.out.cell 0
      have d1 : (w4.alloc (.cells #[.int .i64 k, .int .i64 n0, .string nm, .slice L nl lc, .slice A na ac] 25)).cell? ⟨w.heap.size, 1, none⟩ = some (.int .i64 0) := HZa.out.cell 1
      have d2 : (w4.alloc (.cells #[.int .i64 k, .int .i64 n0, .string nm, .slice L nl lc, .slice A na ac] 25)).cell? ⟨w.heap.size, 2, none⟩ = some (.string ⟨#[]⟩) := HZa.out.cell 2
      have d3 : (w4.alloc (.cells #[.int .i64 k, .int .i64 n0, .string nm, .slice L nl lc, .slice A na ac] 25)).cell? ⟨w.heap.size, 3, none⟩ = some (.slice none 0 0) := HZa.out.cell 3
      have d4 : (w4.alloc (.cells #[.int .i64 k, .int .i64 n0, .string nm, .slice L nl lc, .slice A na ac] 25)).cell? ⟨w.heap.size, 4, none⟩ = some (.slice none 0 0) := HZa.out.cell 4
      have f0 : (w4.alloc (.cells #[.int .i64 k, .int .i64 n0, .string nm, .slice L nl lc, .slice A na ac] 25)).frozen? ⟨w.heap.size, 0, none⟩ = false := HZa.out.free 0
      have f1 : (w4.alloc (.cells #[.int .i64 k, .int .i64 n0, .string nm, .slice L nl lc, .slice A na ac] 25)).frozen? ⟨w.heap.size, 1, none⟩ = false := HZa.out.free 1
      have f2 : (w4.alloc (.cells #[.int .i64 k, .int .i64 n0, .string nm, .slice L nl lc, .slice A na ac] 25)).frozen? ⟨w.heap.size, 2, none⟩ = false := HZa.out.free 2
      have f3 : (w4.alloc (.cells #[.int .i64 k, .int .i64 n0, .string nm, .slice L nl lc, .slice A na ac] 25)).frozen? ⟨w.heap.size, 3, none⟩ = false := HZa.out.free 3
      have f4 : (w4.alloc (.cells #[.int .i64 k, .int .i64 n0, .string nm, .slice L nl lc, .slice A na ac] 25)).frozen? ⟨w.heap.size, 4, none⟩ = false := HZa.out.free 4
      have qa0 : (w4.alloc (.cells #[.int .i64 k, .int .i64 n0, .string nm, .slice L nl lc, .slice A na ac] 25)).cell? ⟨w3.heap.size, 0, none⟩ = some (.int .i64 k) := HQa.out.cell 0
      have qa1 : (w4.alloc (.cells #[.int .i64 k, .int .i64 n0, .string nm, .slice L nl lc, .slice A na ac] 25)).cell? ⟨w3.heap.size, 1, none⟩ = some (.int .i64 n0) := HQa.out.cell 1
      have qa2 : (w4.alloc (.cells #[.int .i64 k, .int .i64 n0, .string nm, .slice L nl lc, .slice A na ac] 25)).cell? ⟨w3.heap.size, 2, none⟩ = some (.string nm) := HQa.out.cell 2
      have qa3 : (w4.alloc (.cells #[.int .i64 k, .int .i64 n0, .string nm, .slice L nl lc, .slice A na ac] 25)).cell? ⟨w3.heap.size, 3, none⟩ = some (.slice L nl lc) := HQa.out.cell 3
      have qa4 : (w4.alloc (.cells #[.int .i64 k, .int .i64 n0, .string nm, .slice L nl lc, .slice A na ac] 25)).cell? ⟨w3.heap.size, 4, none⟩ = some (.slice A na ac) := HQa.out.cell 4
      clear HOR HV4 HT4 HZ4 HQ4 HVa HTa HZa HQa
      go_region
      all_goals go_wp2
      all_goals exact bodyPost_ret (v := .tuple #[.agg #[.int .i64 4, .int .i64 0, .string (s.extract j k1), .slice none 0 0, .slice (some ⟨w4.heap.size, 0, none⟩) 1 1], .bool false]) (by simp [results, Tryd.results75, go_sem, d0, d1, d2, d3, d4]) rfl ⟨4, 0, _, none, 0, 0, _, 1, 1, false, _, _, rfl, HV5.out.below (set5_below _ _ _ _ _ _ _) hl1 hl2 hl3, HT5.out.below (set5_below _ _ _ _ _ _ _) (Nat.le_refl _), Or.inl ⟨rfl, HBAD.out⟩⟩
    · have HX3 := Lib.hid hx3
      have HO4 := Lib.hid (hO.owned.keep (w' := w4) fun g hg _ => HB4.out.block g hg.2)
      clear hx3 hO HOR
      have qa0 : (w4.alloc (.cells #[.int .i64 k, .int .i64 n0, .string nm, .slice L nl lc, .slice A na ac] 25)).cell? ⟨w3.heap.size, 0, none⟩ = some (.int .i64 k) := HQa.out.cell 0
      have qa1 : (w4.alloc (.cells #[.int .i64 k, .int .i64 n0, .string nm, .slice L nl lc, .slice A na ac] 25)).cell? ⟨w3.heap.size, 1, none⟩ = some (.int .i64 n0) := HQa.out.cell 1
      have qa2 : (w4.alloc (.cells #[.int .i64 k, .int .i64 n0, .string nm, .slice L nl lc, .slice A na ac] 25)).cell? ⟨w3.heap.size, 2, none⟩ = some (.string nm) := HQa.out.cell 2
      have qa3 : (w4.alloc (.cells #[.int .i64 k, .int .i64 n0, .string nm, .slice L nl lc, .slice A na ac] 25)).cell? ⟨w3.heap.size, 3, none⟩ = some (.slice L nl lc) := HQa.out.cell 3
      have qa4 : (w4.alloc (.cells #[.int .i64 k, .int .i64 n0, .string nm, .slice L nl lc, .slice A na ac] 25)).cell? ⟨w3.heap.size, 4, none⟩ = some (.slice A na ac) := HQa.out.cell 4
      have qa5 : (w4.alloc (.cells #[.int .i64 k, .int .i64 n0, .string nm, .slice L nl lc, .slice A na ac] 25)).cell? ⟨pr, 0, none⟩ = some (rdAcc ps pa) := HVa.out.obj.cell 0
      have qd0 : w4.drew.cell? ⟨w3.heap.size, 0, none⟩ = some (.int .i64 k) := q0
      have qe0 : (w4.alloc (.cells #[.int .i64 k, .int .i64 n0, .string nm, .slice L nl lc, .slice A na ac] 25)).drew.cell? ⟨w3.heap.size, 0, none⟩ = some (.int .i64 k) := qa0
      have qd1 : w4.drew.cell? ⟨w3.heap.size, 1, none⟩ = some (.int .i64 n0) := q1
      have qe1 : (w4.alloc (.cells #[.int .i64 k, .int .i64 n0, .string nm, .slice L nl lc, .slice A na ac] 25)).drew.cell? ⟨w3.heap.size, 1, none⟩ = some (.int .i64 n0) := qa1
      have qd2 : w4.drew.cell? ⟨w3.heap.size, 2, none⟩ = some (.string nm) := q2
      have qe2 : (w4.alloc (.cells #[.int .i64 k, .int .i64 n0, .string nm, .slice L nl lc, .slice A na ac] 25)).drew.cell? ⟨w3.heap.size, 2, none⟩ = some (.string nm) := qa2
      have qd3 : w4.drew.cell? ⟨w3.heap.size, 3, none⟩ = some (.slice L nl lc) := q3
      have qe3 : (w4.alloc (.cells #[.int .i64 k, .int .i64 n0, .string nm, .slice L nl lc, .slice A na ac] 25)).drew.cell? ⟨w3.heap.size, 3, none⟩ = some (.slice L nl lc) := qa3
      have qd4 : w4.drew.cell? ⟨w3.heap.size, 4, none⟩ = some (.slice A na ac) := q4
      have qe4 : (w4.alloc (.cells #[.int .i64 k, .int .i64 n0, .string nm, .slice L nl lc, .slice A na ac] 25)).drew.cell? ⟨w3.heap.size, 4, none⟩ = some (.slice A na ac) := qa4
      have qd5 : w4.drew.cell? ⟨pr, 0, none⟩ = some (rdAcc ps pa) := q5
      have qe5 : (w4.alloc (.cells #[.int .i64 k, .int .i64 n0, .string nm, .slice L nl lc, .slice A na ac] 25)).drew.cell? ⟨pr, 0, none⟩ = some (rdAcc ps pa) := qa5
      obtain ⟨xsa, vsa, loa, hia, hOa⟩ := own_one (base := w.heap.size + 1) (lo0 := w2.heap.size) (hi0 := w3.heap.size) 4 0 (s.extract j k1) (by unfold maxLen; omega) (by omega) (by omega) (by omega) HO4.out
      have HOa := Lib.hid hOa
      clear hOa
      have hne : w3.heap.size ≠ w.heap.size := by omega
      have hne2 : pr ≠ w.heap.size := by omega
      cases h62 : eat 62 (restOf s j3) with
      | some q5 =>
        have h62' := (eats_one 62 _).trans h62
        obtain ⟨hle5, rfl⟩ := eats_rest (p := ⟨#[62]⟩) HV4.out.rd.le h62'
        have HA1 := Lib.hid (accE_yes ps pa j3 s ⟨#[62]⟩ _ w4.drew (HV4.out.rd.drewN 1) hs h62')
        have HA2 := Lib.hid (accE_yes ps pa j3 s ⟨#[62]⟩ _ (w4.alloc (.cells #[.int .i64 k, .int .i64 n0, .string nm, .slice L nl lc, .slice A na ac] 25)).drew (HVa.out.rd.drewN 1) hs h62')
        have HX5 := Lib.hid (tag_some HX.out HX3.out h62)
        clear h62 h62'
        generalize j3 + (⟨#[62]⟩ : ByteArray).size = j5 at *
        go_region_held3 (fun x' : World => x'.cell? ⟨w3.heap.size, 0, none⟩ = some (.int .i64 k) ∧ x'.cell? ⟨w3.heap.size, 1, none⟩ = some (.int .i64 n0) ∧ x'.cell? ⟨w3.heap.size, 2, none⟩ = some (.string nm) ∧ x'.cell? ⟨w3.heap.size, 3, none⟩ = some (.slice L nl lc) ∧ x'.cell? ⟨w3.heap.size, 4, none⟩ = some (.slice A na ac) ∧ x'.cell? ⟨pr, 0, none⟩ = some (rdAcc ps pa)) (first | with_reducible exact ⟨q0, q1, q2, q3, q4, q5⟩ | with_reducible exact ⟨qd0, qd1, qd2, qd3, qd4, qd5⟩ | with_reducible exact ⟨qe0, qe1, qe2, qe3, qe4, qe5⟩ | with_reducible exact ⟨qa0, qa1, qa2, qa3, qa4, qa5⟩ | with_reducible exact ⟨y0, y1, y2, y3, y4, y5⟩ | with_reducible exact ⟨yy0, yy1, yy2, yy3, yy4, yy5⟩ | with_reducible exact ⟨(hs6 _ _ _ _ _ _).trans y0, (hs6 _ _ _ _ _ _).trans y1, (hs6 _ _ _ _ _ _).trans y2, (hs6 _ _ _ _ _ _).trans y3, (hs6 _ _ _ _ _ _).trans y4, (hs7 _ _ _ _ _ _).trans y5⟩ | with_reducible exact ⟨(hs6 _ _ _ _ _ _).trans yy0, (hs6 _ _ _ _ _ _).trans yy1, (hs6 _ _ _ _ _ _).trans yy2, (hs6 _ _ _ _ _ _).trans yy3, (hs6 _ _ _ _ _ _).trans yy4, (hs7 _ _ _ _ _ _).trans yy5⟩ | go_keep) (first | (go_simp; go_at_call 68; (with_reducible refine HA1.out.mono ?_); rintro e w6 ⟨rfl, hr6, hg6'⟩; have hg6 := grown_undrew hg6'; have hT6 := Turn.of_grown hg6 (X := vrX pa pr) (Or.inl rfl); have hV6 := HV4.out.read hr6 hg6; have hQ6 := turn_stays hT6 HQ4.out (by omega) (by omega); have hZ6 := turn_stays hT6 HZ4.out (by omega) (by omega); have y0 : w6.cell? ⟨w3.heap.size, 0, none⟩ = some (.int .i64 k) := hQ6.cell 0; have y1 : w6.cell? ⟨w3.heap.size, 1, none⟩ = some (.int .i64 n0) := hQ6.cell 1; have y2 : w6.cell? ⟨w3.heap.size, 2, none⟩ = some (.string nm) := hQ6.cell 2; have y3 : w6.cell? ⟨w3.heap.size, 3, none⟩ = some (.slice L nl lc) := hQ6.cell 3; have y4 : w6.cell? ⟨w3.heap.size, 4, none⟩ = some (.slice A na ac) := hQ6.cell 4; have y5 : w6.cell? ⟨pr, 0, none⟩ = some (rdAcc ps pa) := hV6.obj.cell 0; have hO6 := HO4.out.keep (w' := w6) (fun g hg hl => hg6.block g hl (fun e => by injection e with e; have := hg.1; omega)); have hz6 := hg6.size; have hb7 := (Below.refl w6.heap.size w6).alloc (Nat.le_refl _) (.cells #[.int .i64 k, .int .i64 n0, .string nm, .slice L nl lc, .slice A na ac] 25); have hV7 := hV6.keep hb7; have hQ7 := hQ6.below hb7 hQ6.lt; have hZ7 := hZ6.below hb7 hZ6.lt; have HT7 := Lib.hid ((HT4.out.trans hT6).below hb7 (HT4.out.trans hT6).size); have yy0 : (w6.alloc (.cells #[.int .i64 k, .int .i64 n0, .string nm, .slice L nl lc, .slice A na ac] 25)).cell? ⟨w3.heap.size, 0, none⟩ = some (.int .i64 k) := hQ7.cell 0; have yy1 : (w6.alloc (.cells #[.int .i64 k, .int .i64 n0, .string nm, .slice L nl lc, .slice A na ac] 25)).cell? ⟨w3.heap.size, 1, none⟩ = some (.int .i64 n0) := hQ7.cell 1; have yy2 : (w6.alloc (.cells #[.int .i64 k, .int .i64 n0, .string nm, .slice L nl lc, .slice A na ac] 25)).cell? ⟨w3.heap.size, 2, none⟩ = some (.string nm) := hQ7.cell 2; have yy3 : (w6.alloc (.cells #[.int .i64 k, .int .i64 n0, .string nm, .slice L nl lc, .slice A na ac] 25)).cell? ⟨w3.heap.size, 3, none⟩ = some (.slice L nl lc) := hQ7.cell 3; have yy4 : (w6.alloc (.cells #[.int .i64 k, .int .i64 n0, .string nm, .slice L nl lc, .slice A na ac] 25)).cell? ⟨w3.heap.size, 4, none⟩ = some (.slice A na ac) := hQ7.cell 4; have yy5 : (w6.alloc (.cells #[.int .i64 k, .int .i64 n0, .string nm, .slice L nl lc, .slice A na ac] 25)).cell? ⟨pr, 0, none⟩ = some (rdAcc ps pa) := hV7.obj.cell 0; have d0 : (w6.alloc (.cells #[.int .i64 k, .int .i64 n0, .string nm, .slice L nl lc, .slice A na ac] 25)).cell? ⟨w.heap.size, 0, none⟩ = some (.int .i64 0) := hZ7.cell 0; have d1 : (w6.alloc (.cells #[.int .i64 k, .int .i64 n0, .string nm, .slice L nl lc, .slice A na ac] 25)).cell? ⟨w.heap.size, 1, none⟩ = some (.int .i64 0) := hZ7.cell 1; have d2 : (w6.alloc (.cells #[.int .i64 k, .int .i64 n0, .string nm, .slice L nl lc, .slice A na ac] 25)).cell? ⟨w.heap.size, 2, none⟩ = some (.string ⟨#[]⟩) := hZ7.cell 2; have d3 : (w6.alloc (.cells #[.int .i64 k, .int .i64 n0, .string nm, .slice L nl lc, .slice A na ac] 25)).cell? ⟨w.heap.size, 3, none⟩ = some (.slice none 0 0) := hZ7.cell 3; have d4 : (w6.alloc (.cells #[.int .i64 k, .int .i64 n0, .string nm, .slice L nl lc, .slice A na ac] 25)).cell? ⟨w.heap.size, 4, none⟩ = some (.slice none 0 0) := hZ7.cell 4; have f0 : (w6.alloc (.cells #[.int .i64 k, .int .i64 n0, .string nm, .slice L nl lc, .slice A na ac] 25)).frozen? ⟨w.heap.size, 0, none⟩ = false := hZ7.free 0; have f1 : (w6.alloc (.cells #[.int .i64 k, .int .i64 n0, .string nm, .slice L nl lc, .slice A na ac] 25)).frozen? ⟨w.heap.size, 1, none⟩ = false := hZ7.free 1; have f2 : (w6.alloc (.cells #[.int .i64 k, .int .i64 n0, .string nm, .slice L nl lc, .slice A na ac] 25)).frozen? ⟨w.heap.size, 2, none⟩ = false := hZ7.free 2; have f3 : (w6.alloc (.cells #[.int .i64 k, .int .i64 n0, .string nm, .slice L nl lc, .slice A na ac] 25)).frozen? ⟨w.heap.size, 3, none⟩ = false := hZ7.free 3; have f4 : (w6.alloc (.cells #[.int .i64 k, .int .i64 n0, .string nm, .slice L nl lc, .slice A na ac] 25)).frozen? ⟨w.heap.size, 4, none⟩ = false := hZ7.free 4; have hs6 := fun a b c d e i => set5_cell ((w6.alloc (.cells #[.int .i64 k, .int .i64 n0, .string nm, .slice L nl lc, .slice A na ac] 25))) w.heap.size a b c d e w3.heap.size i hne; have hs7 := fun a b c d e i => set5_cell ((w6.alloc (.cells #[.int .i64 k, .int .i64 n0, .string nm, .slice L nl lc, .slice A na ac] 25))) w.heap.size a b c d e pr i hne2; obtain ⟨xsb, vsb, lob, hib, hOb⟩ := own_one (base := w.heap.size + 1) (lo0 := w2.heap.size) (hi0 := w3.heap.size) 4 0 (s.extract j k1) (by unfold maxLen; omega) (by omega) (by omega) (by omega) hO6; have HO7 := Lib.hid hOb.own; have HV7 := Lib.hid hV7; clear hr6 hg6 hg6' hT6 hV6 hQ6 hZ6 hO6 hb7 hV7 hQ7 hZ7 hOb) | (go_simp; go_at_call 68; (with_reducible refine HA2.out.mono ?_); rintro e w6 ⟨rfl, hr6, hg6'⟩; have hg6 := grown_undrew hg6'; have hT6 := Turn.of_grown hg6 (X := vrX pa pr) (Or.inl rfl); have hV6 := HVa.out.read hr6 hg6; have hQ6 := turn_stays hT6 HQa.out (by omega) (by omega); have hZ6 := turn_stays hT6 HZa.out (by omega) (by omega); have y0 : w6.cell? ⟨w3.heap.size, 0, none⟩ = some (.int .i64 k) := hQ6.cell 0; have y1 : w6.cell? ⟨w3.heap.size, 1, none⟩ = some (.int .i64 n0) := hQ6.cell 1; have y2 : w6.cell? ⟨w3.heap.size, 2, none⟩ = some (.string nm) := hQ6.cell 2; have y3 : w6.cell? ⟨w3.heap.size, 3, none⟩ = some (.slice L nl lc) := hQ6.cell 3; have y4 : w6.cell? ⟨w3.heap.size, 4, none⟩ = some (.slice A na ac) := hQ6.cell 4; have y5 : w6.cell? ⟨pr, 0, none⟩ = some (rdAcc ps pa) := hV6.obj.cell 0; have d0 : w6.cell? ⟨w.heap.size, 0, none⟩ = some (.int .i64 0) := hZ6.cell 0; have d1 : w6.cell? ⟨w.heap.size, 1, none⟩ = some (.int .i64 0) := hZ6.cell 1; have d2 : w6.cell? ⟨w.heap.size, 2, none⟩ = some (.string ⟨#[]⟩) := hZ6.cell 2; have d3 : w6.cell? ⟨w.heap.size, 3, none⟩ = some (.slice none 0 0) := hZ6.cell 3; have d4 : w6.cell? ⟨w.heap.size, 4, none⟩ = some (.slice none 0 0) := hZ6.cell 4; have f0 : w6.frozen? ⟨w.heap.size, 0, none⟩ = false := hZ6.free 0; have f1 : w6.frozen? ⟨w.heap.size, 1, none⟩ = false := hZ6.free 1; have f2 : w6.frozen? ⟨w.heap.size, 2, none⟩ = false := hZ6.free 2; have f3 : w6.frozen? ⟨w.heap.size, 3, none⟩ = false := hZ6.free 3; have f4 : w6.frozen? ⟨w.heap.size, 4, none⟩ = false := hZ6.free 4; have hs6 := fun a b c d e i => set5_cell (w6) w.heap.size a b c d e w3.heap.size i hne; have hs7 := fun a b c d e i => set5_cell (w6) w.heap.size a b c d e pr i hne2; have HO6 := Lib.hid (HOa.out.grown hg6 (by omega)).own; have HV6 := Lib.hid hV6; have HT6 := Lib.hid (HTa.out.trans hT6); clear hr6 hg6 hg6' hT6 hV6 hQ6 hZ6))
        all_goals go_wp2
        all_goals first
          | exact bodyPost_ret (v := .tuple #[.agg #[.int .i64 4, .int .i64 0, .string (s.extract j k1), .slice none 0 0, .slice (some ⟨w4.heap.size, 0, none⟩) 1 1], .bool true]) (by simp [results, Tryd.results75, go_sem, d0, d1, d2, d3, d4]) rfl ⟨4, 0, _, none, 0, 0, _, 1, 1, true, _, _, rfl, HV6.out.below (set5_below _ _ _ _ _ _ _) hl1 hl2 hl3, HT6.out.below (set5_below _ _ _ _ _ _ _) (Nat.le_refl _), Or.inr ⟨rfl, _, by rw [HX5.out, HD1.out.2], by rw [sizeVa, sizeVas, sizeVas]; omega, by rw [sizeVa, sizeVas, sizeVas]; omega, (HO6.out.set5 _ (by omega) _ _ _ _ _).base (by omega)⟩⟩
          | exact bodyPost_ret (v := .tuple #[.agg #[.int .i64 4, .int .i64 0, .string (s.extract j k1), .slice none 0 0, .slice (some ⟨w6.heap.size, 0, none⟩) 1 1], .bool true]) (by simp [results, Tryd.results75, go_sem, d0, d1, d2, d3, d4]) rfl ⟨4, 0, _, none, 0, 0, _, 1, 1, true, _, _, rfl, HV7.out.below (set5_below _ _ _ _ _ _ _) hl1 hl2 hl3, HT7.out.below (set5_below _ _ _ _ _ _ _) (Nat.le_refl _), Or.inr ⟨rfl, _, by rw [HX5.out, HD1.out.2], by rw [sizeVa, sizeVas, sizeVas]; omega, by rw [sizeVa, sizeVas, sizeVas]; omega, (HO7.out.set5 _ (by omega) _ _ _ _ _).base (by omega)⟩⟩
      | none =>
        have h62' := (eats_one 62 _).trans h62
        have HA1 := Lib.hid (accE_no ps pa j3 s ⟨#[62]⟩ w4.drew (HV4.out.rd.drewN 1) h62')
        have HA2 := Lib.hid (accE_no ps pa j3 s ⟨#[62]⟩ (w4.alloc (.cells #[.int .i64 k, .int .i64 n0, .string nm, .slice L nl lc, .slice A na ac] 25)).drew (HVa.out.rd.drewN 1) h62')
        have HX5 := Lib.hid (tag_stop HX.out HX3.out h62)
        clear h62 h62' 
        go_region_held3 (fun x' : World => x'.cell? ⟨w3.heap.size, 0, none⟩ = some (.int .i64 k) ∧ x'.cell? ⟨w3.heap.size, 1, none⟩ = some (.int .i64 n0) ∧ x'.cell? ⟨w3.heap.size, 2, none⟩ = some (.string nm) ∧ x'.cell? ⟨w3.heap.size, 3, none⟩ = some (.slice L nl lc) ∧ x'.cell? ⟨w3.heap.size, 4, none⟩ = some (.slice A na ac) ∧ x'.cell? ⟨pr, 0, none⟩ = some (rdAcc ps pa)) (first | with_reducible exact ⟨q0, q1, q2, q3, q4, q5⟩ | with_reducible exact ⟨qd0, qd1, qd2, qd3, qd4, qd5⟩ | with_reducible exact ⟨qe0, qe1, qe2, qe3, qe4, qe5⟩ | with_reducible exact ⟨qa0, qa1, qa2, qa3, qa4, qa5⟩ | with_reducible exact ⟨y0, y1, y2, y3, y4, y5⟩ | with_reducible exact ⟨yy0, yy1, yy2, yy3, yy4, yy5⟩ | with_reducible exact ⟨(hs6 _ _ _ _ _ _).trans y0, (hs6 _ _ _ _ _ _).trans y1, (hs6 _ _ _ _ _ _).trans y2, (hs6 _ _ _ _ _ _).trans y3, (hs6 _ _ _ _ _ _).trans y4, (hs7 _ _ _ _ _ _).trans y5⟩ | with_reducible exact ⟨(hs6 _ _ _ _ _ _).trans yy0, (hs6 _ _ _ _ _ _).trans yy1, (hs6 _ _ _ _ _ _).trans yy2, (hs6 _ _ _ _ _ _).trans yy3, (hs6 _ _ _ _ _ _).trans yy4, (hs7 _ _ _ _ _ _).trans yy5⟩ | go_keep) (first | (go_simp; go_at_call 68; (with_reducible refine HA1.out.mono ?_); rintro e w6 ⟨rfl, hr6, hg6'⟩; have hg6 := grown_undrew hg6'; have hT6 := Turn.of_grown hg6 (X := vrX pa pr) (Or.inl rfl); have hV6 := HV4.out.read hr6 hg6; have hQ6 := turn_stays hT6 HQ4.out (by omega) (by omega); have hZ6 := turn_stays hT6 HZ4.out (by omega) (by omega); have y0 : w6.cell? ⟨w3.heap.size, 0, none⟩ = some (.int .i64 k) := hQ6.cell 0; have y1 : w6.cell? ⟨w3.heap.size, 1, none⟩ = some (.int .i64 n0) := hQ6.cell 1; have y2 : w6.cell? ⟨w3.heap.size, 2, none⟩ = some (.string nm) := hQ6.cell 2; have y3 : w6.cell? ⟨w3.heap.size, 3, none⟩ = some (.slice L nl lc) := hQ6.cell 3; have y4 : w6.cell? ⟨w3.heap.size, 4, none⟩ = some (.slice A na ac) := hQ6.cell 4; have y5 : w6.cell? ⟨pr, 0, none⟩ = some (rdAcc ps pa) := hV6.obj.cell 0; have hO6 := HO4.out.keep (w' := w6) (fun g hg hl => hg6.block g hl (fun e => by injection e with e; have := hg.1; omega)); have hz6 := hg6.size; have hb7 := (Below.refl w6.heap.size w6).alloc (Nat.le_refl _) (.cells #[.int .i64 k, .int .i64 n0, .string nm, .slice L nl lc, .slice A na ac] 25); have hV7 := hV6.keep hb7; have hQ7 := hQ6.below hb7 hQ6.lt; have hZ7 := hZ6.below hb7 hZ6.lt; have HT7 := Lib.hid ((HT4.out.trans hT6).below hb7 (HT4.out.trans hT6).size); have yy0 : (w6.alloc (.cells #[.int .i64 k, .int .i64 n0, .string nm, .slice L nl lc, .slice A na ac] 25)).cell? ⟨w3.heap.size, 0, none⟩ = some (.int .i64 k) := hQ7.cell 0; have yy1 : (w6.alloc (.cells #[.int .i64 k, .int .i64 n0, .string nm, .slice L nl lc, .slice A na ac] 25)).cell? ⟨w3.heap.size, 1, none⟩ = some (.int .i64 n0) := hQ7.cell 1; have yy2 : (w6.alloc (.cells #[.int .i64 k, .int .i64 n0, .string nm, .slice L nl lc, .slice A na ac] 25)).cell? ⟨w3.heap.size, 2, none⟩ = some (.string nm) := hQ7.cell 2; have yy3 : (w6.alloc (.cells #[.int .i64 k, .int .i64 n0, .string nm, .slice L nl lc, .slice A na ac] 25)).cell? ⟨w3.heap.size, 3, none⟩ = some (.slice L nl lc) := hQ7.cell 3; have yy4 : (w6.alloc (.cells #[.int .i64 k, .int .i64 n0, .string nm, .slice L nl lc, .slice A na ac] 25)).cell? ⟨w3.heap.size, 4, none⟩ = some (.slice A na ac) := hQ7.cell 4; have yy5 : (w6.alloc (.cells #[.int .i64 k, .int .i64 n0, .string nm, .slice L nl lc, .slice A na ac] 25)).cell? ⟨pr, 0, none⟩ = some (rdAcc ps pa) := hV7.obj.cell 0; have d0 : (w6.alloc (.cells #[.int .i64 k, .int .i64 n0, .string nm, .slice L nl lc, .slice A na ac] 25)).cell? ⟨w.heap.size, 0, none⟩ = some (.int .i64 0) := hZ7.cell 0; have d1 : (w6.alloc (.cells #[.int .i64 k, .int .i64 n0, .string nm, .slice L nl lc, .slice A na ac] 25)).cell? ⟨w.heap.size, 1, none⟩ = some (.int .i64 0) := hZ7.cell 1; have d2 : (w6.alloc (.cells #[.int .i64 k, .int .i64 n0, .string nm, .slice L nl lc, .slice A na ac] 25)).cell? ⟨w.heap.size, 2, none⟩ = some (.string ⟨#[]⟩) := hZ7.cell 2; have d3 : (w6.alloc (.cells #[.int .i64 k, .int .i64 n0, .string nm, .slice L nl lc, .slice A na ac] 25)).cell? ⟨w.heap.size, 3, none⟩ = some (.slice none 0 0) := hZ7.cell 3; have d4 : (w6.alloc (.cells #[.int .i64 k, .int .i64 n0, .string nm, .slice L nl lc, .slice A na ac] 25)).cell? ⟨w.heap.size, 4, none⟩ = some (.slice none 0 0) := hZ7.cell 4; have f0 : (w6.alloc (.cells #[.int .i64 k, .int .i64 n0, .string nm, .slice L nl lc, .slice A na ac] 25)).frozen? ⟨w.heap.size, 0, none⟩ = false := hZ7.free 0; have f1 : (w6.alloc (.cells #[.int .i64 k, .int .i64 n0, .string nm, .slice L nl lc, .slice A na ac] 25)).frozen? ⟨w.heap.size, 1, none⟩ = false := hZ7.free 1; have f2 : (w6.alloc (.cells #[.int .i64 k, .int .i64 n0, .string nm, .slice L nl lc, .slice A na ac] 25)).frozen? ⟨w.heap.size, 2, none⟩ = false := hZ7.free 2; have f3 : (w6.alloc (.cells #[.int .i64 k, .int .i64 n0, .string nm, .slice L nl lc, .slice A na ac] 25)).frozen? ⟨w.heap.size, 3, none⟩ = false := hZ7.free 3; have f4 : (w6.alloc (.cells #[.int .i64 k, .int .i64 n0, .string nm, .slice L nl lc, .slice A na ac] 25)).frozen? ⟨w.heap.size, 4, none⟩ = false := hZ7.free 4; have hs6 := fun a b c d e i => set5_cell ((w6.alloc (.cells #[.int .i64 k, .int .i64 n0, .string nm, .slice L nl lc, .slice A na ac] 25))) w.heap.size a b c d e w3.heap.size i hne; have hs7 := fun a b c d e i => set5_cell ((w6.alloc (.cells #[.int .i64 k, .int .i64 n0, .string nm, .slice L nl lc, .slice A na ac] 25))) w.heap.size a b c d e pr i hne2; obtain ⟨xsb, vsb, lob, hib, hOb⟩ := own_one (base := w.heap.size + 1) (lo0 := w2.heap.size) (hi0 := w3.heap.size) 4 0 (s.extract j k1) (by unfold maxLen; omega) (by omega) (by omega) (by omega) hO6; have HO7 := Lib.hid hOb.own; have HV7 := Lib.hid hV7; clear hr6 hg6 hg6' hT6 hV6 hQ6 hZ6 hO6 hb7 hV7 hQ7 hZ7 hOb) | (go_simp; go_at_call 68; (with_reducible refine HA2.out.mono ?_); rintro e w6 ⟨rfl, hr6, hg6'⟩; have hg6 := grown_undrew hg6'; have hT6 := Turn.of_grown hg6 (X := vrX pa pr) (Or.inl rfl); have hV6 := HVa.out.read hr6 hg6; have hQ6 := turn_stays hT6 HQa.out (by omega) (by omega); have hZ6 := turn_stays hT6 HZa.out (by omega) (by omega); have y0 : w6.cell? ⟨w3.heap.size, 0, none⟩ = some (.int .i64 k) := hQ6.cell 0; have y1 : w6.cell? ⟨w3.heap.size, 1, none⟩ = some (.int .i64 n0) := hQ6.cell 1; have y2 : w6.cell? ⟨w3.heap.size, 2, none⟩ = some (.string nm) := hQ6.cell 2; have y3 : w6.cell? ⟨w3.heap.size, 3, none⟩ = some (.slice L nl lc) := hQ6.cell 3; have y4 : w6.cell? ⟨w3.heap.size, 4, none⟩ = some (.slice A na ac) := hQ6.cell 4; have y5 : w6.cell? ⟨pr, 0, none⟩ = some (rdAcc ps pa) := hV6.obj.cell 0; have d0 : w6.cell? ⟨w.heap.size, 0, none⟩ = some (.int .i64 0) := hZ6.cell 0; have d1 : w6.cell? ⟨w.heap.size, 1, none⟩ = some (.int .i64 0) := hZ6.cell 1; have d2 : w6.cell? ⟨w.heap.size, 2, none⟩ = some (.string ⟨#[]⟩) := hZ6.cell 2; have d3 : w6.cell? ⟨w.heap.size, 3, none⟩ = some (.slice none 0 0) := hZ6.cell 3; have d4 : w6.cell? ⟨w.heap.size, 4, none⟩ = some (.slice none 0 0) := hZ6.cell 4; have f0 : w6.frozen? ⟨w.heap.size, 0, none⟩ = false := hZ6.free 0; have f1 : w6.frozen? ⟨w.heap.size, 1, none⟩ = false := hZ6.free 1; have f2 : w6.frozen? ⟨w.heap.size, 2, none⟩ = false := hZ6.free 2; have f3 : w6.frozen? ⟨w.heap.size, 3, none⟩ = false := hZ6.free 3; have f4 : w6.frozen? ⟨w.heap.size, 4, none⟩ = false := hZ6.free 4; have hs6 := fun a b c d e i => set5_cell (w6) w.heap.size a b c d e w3.heap.size i hne; have hs7 := fun a b c d e i => set5_cell (w6) w.heap.size a b c d e pr i hne2; have HO6 := Lib.hid (HOa.out.grown hg6 (by omega)).own; have HV6 := Lib.hid hV6; have HT6 := Lib.hid (HTa.out.trans hT6); clear hr6 hg6 hg6' hT6 hV6 hQ6 hZ6))
        all_goals go_wp2
        all_goals first
          | exact bodyPost_ret (v := .tuple #[.agg #[.int .i64 4, .int .i64 0, .string (s.extract j k1), .slice none 0 0, .slice (some ⟨w4.heap.size, 0, none⟩) 1 1], .bool false]) (by simp [results, Tryd.results75, go_sem, d0, d1, d2, d3, d4]) rfl ⟨4, 0, _, none, 0, 0, _, 1, 1, false, _, _, rfl, HV6.out.below (set5_below _ _ _ _ _ _ _) hl1 hl2 hl3, HT6.out.below (set5_below _ _ _ _ _ _ _) (Nat.le_refl _), Or.inl ⟨rfl, by rw [HX5.out]; exact Bad.none _ _ _⟩⟩
          | exact bodyPost_ret (v := .tuple #[.agg #[.int .i64 4, .int .i64 0, .string (s.extract j k1), .slice none 0 0, .slice (some ⟨w6.heap.size, 0, none⟩) 1 1], .bool false]) (by simp [results, Tryd.results75, go_sem, d0, d1, d2, d3, d4]) rfl ⟨4, 0, _, none, 0, 0, _, 1, 1, false, _, _, rfl, HV7.out.below (set5_below _ _ _ _ _ _ _) hl1 hl2 hl3, HT7.out.below (set5_below _ _ _ _ _ _ _) (Nat.le_refl _), Or.inl ⟨rfl, by rw [HX5.out]; exact Bad.none _ _ _⟩⟩
end Go.Proofs.YtceclhndagoddaaDoor
end

section
namespace Go.Proofs.YtceclhndagoddaaDoor
open Go Go.RowKit

section
variable {β : Type}
/-- What is left of the parts, the closing sign with it. -/
def rdLoop (f : List UInt8 → Option (β × List UInt8)) (e : UInt8) (k : Nat) (l : List UInt8) : Option (List β × List UInt8) :=
  match rdSeq f k l with
  | none => none
  | some (us, q) => match eat e q with
    | none => none
    | some r => some (us, r)
theorem seqE_yes {f : List UInt8 → Option (β × List UInt8)} {e : UInt8} {l r : List UInt8} (h : eat e l = some r) : rdSeqE f e l = some ([], r) := by
  unfold rdSeqE
  rw [h]
theorem seqE_no {f : List UInt8 → Option (β × List UInt8)} {e : UInt8} {l : List UInt8} (h : eat e l = none) : rdSeqE f e l = rdLoop f e (l.length + 1) l := by
  unfold rdSeqE rdLoop
  rw [h]
  rfl
abbrev szs (sz : β → Nat) (us : List β) : Nat := (us.map sz).sum
abbrev BadL (good : β → Bool) (sz : β → Nat) (m : Nat) (x : Option (List β × List UInt8)) : Prop := Bad (fun us : List β => us.all good) (szs sz) m x
theorem loop_bad {f : List UInt8 → Option (β × List UInt8)} {e : UInt8} {good : β → Bool} {sz : β → Nat} {m k : Nat} {l : List UInt8} (he : intC e = false) (h : Bad good sz m (f l)) : BadL good sz m (rdLoop f e (k + 1) l) := by
  intro us q hx
  unfold rdLoop at hx
  rw [rdSeq] at hx
  cases hf : f l with
  | none =>
    rw [hf] at hx
    cases hx
  | some p =>
    obtain ⟨a, r⟩ := p
    rw [hf] at hx
    simp only at hx
    have hb := h a r hf
    cases h44 : eat 44 r with
    | none =>
      rw [h44] at hx
      simp only at hx
      cases hee : eat e r with
      | none =>
        rw [hee] at hx
        cases hx
      | some r3 =>
        rw [hee] at hx
        simp only [Option.some.injEq, Prod.mk.injEq] at hx
        obtain ⟨rfl, rfl⟩ := hx
        rcases hb with h1 | h1 | h1
        · exact Or.inl (by simp [h1])
        · exact Or.inr (Or.inl (by simpa [szs] using h1))
        · rw [eat_head he h1] at hee
          cases hee
    | some r2 =>
      rw [h44] at hx
      simp only at hx
      cases hs : rdSeq f k r2 with
      | none =>
        rw [hs] at hx
        cases hx
      | some p2 =>
        obtain ⟨vs, q2⟩ := p2
        rw [hs] at hx
        simp only at hx
        cases hee : eat e q2 with
        | none =>
          rw [hee] at hx
          cases hx
        | some r3 =>
          rw [hee] at hx
          simp only [Option.some.injEq, Prod.mk.injEq] at hx
          obtain ⟨rfl, rfl⟩ := hx
          rcases hb with h1 | h1 | h1
          · exact Or.inl (by simp [h1])
          · refine Or.inr (Or.inl ?_)
            simp only [szs, List.map_cons, List.sum_cons]
            omega
          · rw [eat_head (by decide) h1] at h44
            cases h44
theorem eat_two {e d : UInt8} (hne : e ≠ d) {r q : List UInt8} (h : eat e r = some q) : eat d r = none := by
  cases r with
  | nil => rfl
  | cons c t =>
    by_cases hc : c = e
    · subst hc
      exact eat_other _ hne
    · rw [eat_other _ hc] at h
      cases h
theorem loop_end {f : List UInt8 → Option (β × List UInt8)} {e : UInt8} {k : Nat} {l r q : List UInt8} {a : β} (hne : e ≠ 44) (hf : f l = some (a, r)) (hee : eat e r = some q) : rdLoop f e (k + 1) l = some ([a], q) := by
  unfold rdLoop
  rw [rdSeq, hf]
  simp only [eat_two hne hee, hee]
theorem loop_none {f : List UInt8 → Option (β × List UInt8)} {e : UInt8} {k : Nat} {l r : List UInt8} {a : β} (hf : f l = some (a, r)) (hee : eat e r = none) (h44 : eat 44 r = none) : rdLoop f e (k + 1) l = none := by
  unfold rdLoop
  rw [rdSeq, hf]
  simp only [h44, hee]
/-- Parts read already, ahead of what is left. -/
def ahead (pre : List β) (x : Option (List β × List UInt8)) : Option (List β × List UInt8) := x.map fun p => (pre ++ p.1, p.2)
theorem ahead_nil (x : Option (List β × List UInt8)) : ahead [] x = x := by
  cases x <;> simp [ahead]
theorem loop_next {f : List UInt8 → Option (β × List UInt8)} {e : UInt8} {k : Nat} {l r r2 : List UInt8} {a : β} (pre : List β) (hf : f l = some (a, r)) (h44 : eat 44 r = some r2) : ahead pre (rdLoop f e (k + 1) l) = ahead (pre ++ [a]) (rdLoop f e k r2) := by
  unfold rdLoop
  rw [rdSeq, hf]
  simp only [h44]
  cases rdSeq f k r2 with
  | none => rfl
  | some p =>
    obtain ⟨us, q⟩ := p
    simp only
    cases eat e q with
    | none => rfl
    | some r3 => simp [ahead]
theorem ahead_bad {good : β → Bool} {sz : β → Nat} {m : Nat} (pre : List β) {x : Option (List β × List UInt8)} (hm : szs sz pre ≤ m) (h : BadL good sz (m - szs sz pre) x) : BadL good sz m (ahead pre x) := by
  intro us q hx
  cases x with
  | none => cases hx
  | some p =>
    obtain ⟨vs, r⟩ := p
    simp only [ahead, Option.map_some, Option.some.injEq, Prod.mk.injEq] at hx
    obtain ⟨rfl, rfl⟩ := hx
    rcases h vs r rfl with h1 | h1 | h1
    · have h2 : vs.all good = false := h1
      exact Or.inl (show (pre ++ vs).all good = false by rw [List.all_append, h2, Bool.and_false])
    · refine Or.inr (Or.inl ?_)
      simp only [szs, List.map_append, List.sum_append] at h1 hm ⊢
      omega
    · exact Or.inr (Or.inr h1)
end

section
variable {P : Program} {md : Region.Mode} {ops : Array Oper} {Q : Exit → Act → World → Prop} {n l : Nat}
theorem opIn_of_wp {o : Oper} {K : Act → World → Prop} {a : Act} {w : World} (hd : ∀ c, o.op ≠ .defer c) (h : o.wp P a w K Q) : o.wpIn (Fence.wide.inRound l) n P a w K Q := by
  refine ⟨fun f _ => trivial, ?_⟩
  unfold Oper.wp at h
  rw [Oper.semAt_eq _ _ _ hd]
  generalize (execOp a.eval o).run P w = r at *
  cases r with
  | ok nx w' =>
    cases nx with
    | enter f args => exact ⟨fun hh => by simp [Fence.wide] at hh, callsIn_wide.2 h⟩
    | row r args =>
      refine ⟨fun hh => by simp [Fence.wide] at hh, fun c cs _ => ?_⟩
      obtain ⟨v, w2, h1, h2⟩ := h c cs
      exact ⟨v, w2, h1, stepsIn_wide.2 h2⟩
    | _ => first | exact h | exact h.elim
  | halt s w' => cases s <;> first | exact h | exact h.elim
theorem anyIn_of_any (hd : ∀ (i : Nat) (o : Oper), ops[i]? = some o → ∀ c, o.op ≠ .defer c) (hQ : ¬ LetsOut Q) : ∀ (f : Nat) (listed : Array Bool) (a : Act) (w : World), wpAny P md ops Q f listed a w → wpAnyIn (Fence.wide.inRound l) n P md ops Q f listed a w
  | 0, _, _, _, h => h
  | f + 1, listed, a, w, h => by
    refine ⟨h.1, fun i hi => ?_⟩
    have hop := h.2 i hi
    unfold wpOp at hop
    unfold wpOpIn
    cases ho : ops[i]? with
    | none =>
      rw [ho] at hop
      exact anyIn_of_any hd hQ f _ _ _ hop
    | some o =>
      rw [ho] at hop
      simp only at hop ⊢
      by_cases hw : Region.wanted o (yielded ops a.tmps) = true
      · rw [if_pos hw] at hop ⊢
        rcases hop with hop | ⟨_, hop⟩
        · exact opIn_of_wp (hd i o ho) (Oper.wp_mono (fun a' w' h' => anyIn_of_any hd hQ f _ a' w' h') hop)
        · exact absurd hop hQ
      · rw [if_neg hw] at hop ⊢
        exact ⟨fun f _ => trivial, anyIn_of_any hd hQ f _ _ _ hop⟩
def noDefer (ops : Array Oper) : Bool := ops.all fun o => match o.op with | .defer _ => false | _ => true
theorem noDefer_spec (h : noDefer ops = true) : ∀ (i : Nat) (o : Oper), ops[i]? = some o → ∀ c, o.op ≠ .defer c := fun i o ho c e => by
  have h1 := Array.all_eq_true'.1 h o (Array.mem_of_getElem? ho)
  rw [e] at h1
  cases h1
/-- A region that draws, within a round: by the law outside of it. -/
theorem region_round {id : Nat} {a : Act} {w : World} (hm : P.follows .mixedOrders = true) (hd : noDefer ops = true) (hQ : ¬ LetsOut Q) (h : wpAny P .any ops Q ops.size (Array.replicate ops.size false) a w.drew) : (Code.region id ops true).wpIn (Fence.wide.inRound l) n P Q a w :=
  wpIn_region_any hm (anyIn_of_any (noDefer_spec hd) hQ _ _ _ _ h)
end
end Go.Proofs.YtceclhndagoddaaDoor
end
