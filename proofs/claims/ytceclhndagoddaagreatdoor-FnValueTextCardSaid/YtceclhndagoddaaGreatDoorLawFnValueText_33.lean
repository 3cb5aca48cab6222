/- Lemmas: ImplParse, RVal. -/
import Derived.Test.YtceclhndagoddaaGreatDoorLawFnValueText_32
import Derived.Defers
import Derived.Recover
import Derived.Test.YtceclhndagoddaaGreatDoorLawFnValueText_27
import Derived.Test.YtceclhndagoddaaGreatDoorLawFnValueText_6
import Derived.Test.YtceclhndagoddaaGreatDoorLawFnValueText_18

section
namespace Go.Proofs.YtceclhndagoddaaGreatDoor
open Go.RowKit

theorem catchI_panicking (u : TypeId) (pv : Value) (older : List PanicEntry) (w : World) :
    CallsD Tryz.prog 78 #[] (.panicking ({ v := .iface u pv, recovered := false } :: older)) w fun e u' w' =>
      e = .returned (.tuple #[]) ∧ u' = .panicking ({ v := .iface u pv, recovered := true } :: older) ∧ w' = w := by
  refine callsD_of_wpS Tryz.func78 rfl fun c₀ cs hu => ?_
  apply wpS_region
  simp [wpOpsS, go_sem, recoverD, hu, Tryz.ntmps78, bodyPostS, results, Tryz.results78]

theorem catchI_idle (w : World) :
    CallsD Tryz.prog 78 #[] .returning w fun e u' w' => e = .returned (.tuple #[]) ∧ u' = .returning ∧ w' = w := by
  refine callsD_of_wpS Tryz.func78 rfl fun c₀ cs hu => ?_
  apply wpS_region
  simp [wpOpsS, go_sem, recoverD, hu, Tryz.ntmps78, bodyPostS, results, Tryz.results78]
  cases c₀
  simp_all

set_option maxHeartbeats 400000 in
theorem implParseInt_yes (s : ByteArray) (n : Int) (w : World) (hs : s.size ≤ 1048576) (h0 : -999999999999 ≤ n) (h1 : n ≤ 999999999999) (hn : s.data.toList = Lib.itoa n) (ht : Pow10At w) (hsz : 1 < w.heap.size) :
    Calls Tryz.prog 46 #[.string s] w fun e w' => e = .returned (.tuple #[.int .i64 n, .bool true]) ∧ Below w.heap.size w w' := by
  have hw := Lib.hid (within_yes s (-999999999999) 999999999999 n w hs h0 h1 (by omega) (by omega) hn ht hsz)
  have hmf : ∀ (fn : Fn) (first cap : Array Value) (w : World), (Instr.makeFunc fn first cap).run Tryz.prog w = .ok (.func fn first cap) w := fun _ _ _ _ => rfl
  clear hn ht
  go_enter_defers Tryz.func46, Tryz.ntmps46
  go_wp2_with fail
  refine hw.out.mono ?_
  rintro e w1 ⟨rfl, hb1⟩
  go_wp2
  refine leaves_cons (f := 78) (args := #[]) (by simp) (by simp [go_sem]) ?_
  refine (catchI_idle _).mono ?_
  rintro e u' w'' ⟨rfl, rfl, rfl⟩
  simp [Leaves, settle, results, Tryz.results46, go_sem]
  exact hb1

set_option maxHeartbeats 400000 in
theorem implParseInt_no (s : ByteArray) (w : World) (hs : s.size ≤ 1048576) (hn : ∀ n, -999999999999 ≤ n → n ≤ 999999999999 → s.data.toList ≠ Lib.itoa n) (ht : Pow10At w) (hE : ErrsAt w) (hsz : 1 < w.heap.size) :
    Calls Tryz.prog 46 #[.string s] w fun e w' => e = .returned (.tuple #[.int .i64 0, .bool false]) ∧ Below w.heap.size w w' := by
  have hw := Lib.hid (within_no s (-999999999999) 999999999999 w hs (by omega) (by omega) hn ht hE hsz)
  have hmf : ∀ (fn : Fn) (first cap : Array Value) (w : World), (Instr.makeFunc fn first cap).run Tryz.prog w = .ok (.func fn first cap) w := fun _ _ _ _ => rfl
  clear hn ht hE
  go_enter_defers Tryz.func46, Tryz.ntmps46
  go_wp2_with fail
  refine hw.out.mono ?_
  rintro e w1 ⟨⟨t, v, rfl⟩, hb1⟩
  go_wp2
  refine leaves_cons (f := 78) (args := #[]) (by simp) (by simp [go_sem]) ?_
  refine (catchI_panicking _ _ [] _).mono ?_
  rintro e u' w'' ⟨rfl, rfl, rfl⟩
  simp [Leaves, settle, results, Tryz.results46, go_sem]
  exact hb1

end Go.Proofs.YtceclhndagoddaaGreatDoor
end

section
namespace Go.Proofs.YtceclhndagoddaaGreatDoor
open Go Go.RowKit

/-- A digit or a minus stands ahead. -/
def HeadI (r : List UInt8) : Prop := ∃ c q, r = c :: q ∧ intC c = true
theorem eat_head {c : UInt8} {r : List UInt8} (hc : intC c = false) (h : HeadI r) : eat c r = none := by
  obtain ⟨d, q, rfl, hd⟩ := h
  refine eat_other _ fun e => ?_
  rw [e, hc] at hd
  cases hd
/-- What is read can be no part of a value of at most m nodes. -/
def Bad {β : Type} (good : β → Bool) (sz : β → Nat) (m : Nat) (x : Option (β × List UInt8)) : Prop := ∀ b r, x = some (b, r) → good b = false ∨ m < sz b ∨ HeadI r
abbrev BadV (m : Nat) (x : Option (Va × List UInt8)) : Prop := Bad formVa sizeVa m x
theorem Bad.none {β : Type} (good : β → Bool) (sz : β → Nat) (m : Nat) : Bad good sz m none := fun _ _ h => by cases h

/-- What ParseInt reads numbers by. -/
structure NumsAt (w : World) (B : Nat) : Prop where
  pow : Pow10At w
  errs : ErrsAt w
  b1 : 1 < B
  b2 : 2 < B
  b3 : 3 < B
theorem NumsAt.below {w w' : World} {B : Nat} (h : NumsAt w B) (hb : Below B w w') : NumsAt w' B := ⟨h.pow.below hb h.b1, h.errs.below hb ⟨h.b2, h.b3⟩, h.b1, h.b2, h.b3⟩

/-- A reader of values: its variables, its struct in block pr, with m nodes left. -/
structure VR (B : Nat) (w : World) (ps pa pr : Nat) (s : ByteArray) (j m : Nat) : Prop where
  rd : RAt w ps pa s j
  obj : Whole1 w pr 45 #[rdAcc ps pa, rdTak ps pa, rdEnd ps pa, .int .i64 (m : Int)]
  nums : NumsAt w B
  ns : pr ≠ ps
  na : pr ≠ pa
  ls : B ≤ ps
  la : B ≤ pa
  lr : B ≤ pr
/-- The blocks that reading turns. -/
def vrX (pa pr : Nat) : Nat → Prop := fun i => i = pa ∨ i = pr
section
variable {B : Nat} {w w' : World} {ps pa pr j j' m m' : Nat} {s : ByteArray}
theorem VR.ltr (h : VR B w ps pa pr s j m) : pr < w.heap.size := Whole1.lt h.obj
theorem VR.lts (h : VR B w ps pa pr s j m) : ps < w.heap.size := h.rd.lts
theorem VR.lta (h : VR B w ps pa pr s j m) : pa < w.heap.size := h.rd.lta
theorem VR.below {C : Nat} (h : VR B w ps pa pr s j m) (hb : Below C w w') (h1 : ps < C) (h2 : pa < C) (h3 : pr < C) : VR B w' ps pa pr s j m :=
  ⟨h.rd.below hb h1 h2, h.obj.below hb h3, h.nums.below (hb.mono (by have := h.ls; omega)), h.ns, h.na, h.ls, h.la, h.lr⟩
theorem VR.keep (h : VR B w ps pa pr s j m) (hb : Below w.heap.size w w') : VR B w' ps pa pr s j m := h.below hb h.lts h.lta h.ltr
theorem VR.drew (h : VR B w ps pa pr s j m) : VR B w.drew ps pa pr s j m := h.keep (Below.refl w.heap.size w).drew
theorem VR.read (h : VR B w ps pa pr s j m) (hr : RAt w' ps pa s j') (hg : w.grownBy w' (some pa)) : VR B w' ps pa pr s j' m := by
  have hla := h.la
  have hlt := h.lta
  have hb : Below B w w' := ⟨hg.os, hg.tape, hg.output, hg.size, fun i hi => hg.block i (by omega) (fun e => by injection e with e; omega)⟩
  exact ⟨hr, (hg.block _ h.ltr (fun e => by injection e with e; exact h.na e)).trans h.obj, h.nums.below hb, h.ns, h.na, h.ls, h.la, h.lr⟩
theorem VR.put (h : VR B w ps pa pr s j m) (m' : Nat) : VR B (w.setCell ⟨pr, 3, none⟩ (.int .i64 (m' : Int))) ps pa pr s j m' := by
  have hb : Below pr w (w.setCell ⟨pr, 3, none⟩ (.int .i64 (m' : Int))) := (Below.refl pr w).setCell (p := ⟨pr, 3, none⟩) (Nat.le_refl _) _
  exact ⟨⟨(Below.heap_setCell _ _ _ _ h.ns.symm).trans h.rd.str, (Below.heap_setCell _ _ _ _ h.na.symm).trans h.rd.place, h.rd.ne, h.rd.le⟩, Whole1.set h.obj 3 _, h.nums.below (hb.mono h.lr), h.ns, h.na, h.ls, h.la, h.lr⟩
/-- Behind all that is turned: a block that is none of the reader's stands. -/
theorem turn_stays {t : TypeId} {cs : Array Value} {r : Nat} (hT : Turn (vrX pa pr) w w') (h : Whole1 w r t cs) (h1 : r ≠ pa) (h2 : r ≠ pr) : Whole1 w' r t cs :=
  (hT.block _ h.lt (fun e => e.elim h1 h2)).trans h
theorem turn_low {C : Nat} (hT : Turn (vrX pa pr) w w') (h1 : C ≤ pa) (h2 : C ≤ pr) (hw : C ≤ w.heap.size) : Below C w w' :=
  ⟨hT.os, hT.tape, hT.output, hT.size, fun i hi => hT.block i (by omega) (fun e => by rcases e with e | e <;> omega)⟩
end

/-- What readValue does, x being what the text reads as. -/
def ValPost (B ps pa pr : Nat) (s : ByteArray) (m : Nat) (w : World) (x : Option (Va × List UInt8)) (e : Ending) (w' : World) : Prop :=
  ∃ (k n : Int) (nm : ByteArray) (L : Option Addr) (nl lc : Nat) (A : Option Addr) (na ac : Nat) (ok : Bool) (j' m' : Nat), e = .returned (.tuple #[.agg #[.int .i64 k, .int .i64 n, .string nm, .slice L nl lc, .slice A na ac], .bool ok]) ∧ VR B w' ps pa pr s j' m' ∧ Turn (vrX pa pr) w w' ∧
    ((ok = false ∧ BadV m x) ∨ (ok = true ∧ ∃ t, x = some (t, restOf s j') ∧ sizeVa t ≤ m ∧ m' = m - sizeVa t ∧ OwnVa w' w.heap.size (.agg #[.int .i64 k, .int .i64 n, .string nm, .slice L nl lc, .slice A na ac]) t))
/-- readValue, with m nodes left, over n levels of the model's. -/
def ValR (n m : Nat) : Prop := ∀ (B : Nat) (w : World) (ps pa pr j : Nat) (s : ByteArray), VR B w ps pa pr s j m → s.size ≤ 1048576 →
  Calls Tryz.prog 18 #[.pointer (some ⟨pr, 0, none⟩)] w (ValPost B ps pa pr s m w (rdVa n (restOf s j)))
/-- What readField and readElement do. -/
def PartPost {β : Type} (lab : β → ByteArray) (val : β → Va) (B ps pa pr : Nat) (s : ByteArray) (m : Nat) (w : World) (x : Option (β × List UInt8)) (e : Ending) (w' : World) : Prop :=
  ∃ (l0 : ByteArray) (k n : Int) (nm : ByteArray) (L : Option Addr) (nl lc : Nat) (A : Option Addr) (na ac : Nat) (ok : Bool) (j' m' : Nat), e = .returned (.tuple #[.agg #[.string l0, .int .i64 k, .int .i64 n, .string nm, .slice L nl lc, .slice A na ac], .bool ok]) ∧ VR B w' ps pa pr s j' m' ∧ Turn (vrX pa pr) w w' ∧
    ((ok = false ∧ Bad (fun b => formVa (val b)) (fun b => sizeVa (val b)) m x) ∨ (ok = true ∧ ∃ b, x = some (b, restOf s j') ∧ lab b = l0 ∧ l0.size ≤ 1048576 ∧ sizeVa (val b) ≤ m ∧ m' = m - sizeVa (val b) ∧ OwnVa w' w.heap.size (.agg #[.int .i64 k, .int .i64 n, .string nm, .slice L nl lc, .slice A na ac]) (val b)))

theorem set6_kept (w : World) (r : Nat) (a b c d e f : Value) (g : Nat) (hg : g ≠ r) : ((((((w.setCell ⟨r, 0, none⟩ a).setCell ⟨r, 1, none⟩ b).setCell ⟨r, 2, none⟩ c).setCell ⟨r, 3, none⟩ d).setCell ⟨r, 4, none⟩ e).setCell ⟨r, 5, none⟩ f).heap[g]? = w.heap[g]? := by
  rw [Below.heap_setCell _ _ _ _ hg, Below.heap_setCell _ _ _ _ hg, Below.heap_setCell _ _ _ _ hg, Below.heap_setCell _ _ _ _ hg, Below.heap_setCell _ _ _ _ hg, Below.heap_setCell _ _ _ _ hg]
theorem set6_below (w : World) (r : Nat) (a b c d e f : Value) : Below r w ((((((w.setCell ⟨r, 0, none⟩ a).setCell ⟨r, 1, none⟩ b).setCell ⟨r, 2, none⟩ c).setCell ⟨r, 3, none⟩ d).setCell ⟨r, 4, none⟩ e).setCell ⟨r, 5, none⟩ f) :=
  ((((((Below.refl r w).setCell (p := ⟨r, 0, none⟩) (Nat.le_refl _) _).setCell (p := ⟨r, 1, none⟩) (Nat.le_refl _) _).setCell (p := ⟨r, 2, none⟩) (Nat.le_refl _) _).setCell (p := ⟨r, 3, none⟩) (Nat.le_refl _) _).setCell (p := ⟨r, 4, none⟩) (Nat.le_refl _) _).setCell (p := ⟨r, 5, none⟩) (Nat.le_refl _) _
theorem OwnVa.set6 {w : World} {base : Nat} {v : Value} {t : Va} (h : OwnVa w base v t) (r : Nat) (hr : r < base) (a b c d e f : Value) : OwnVa ((((((w.setCell ⟨r, 0, none⟩ a).setCell ⟨r, 1, none⟩ b).setCell ⟨r, 2, none⟩ c).setCell ⟨r, 3, none⟩ d).setCell ⟨r, 4, none⟩ e).setCell ⟨r, 5, none⟩ f) base v t :=
  h.keep (set6_below w r a b c d e f).size fun g hg _ => set6_kept _ _ _ _ _ _ _ _ _ (by omega)

set_option maxHeartbeats 4000000 in
set_option maxRecDepth 100000 in
theorem readElement_any (n m : Nat) (H : ValR n m) (B : Nat) (w : World) (ps pa pr j : Nat) (s : ByteArray) (hv : VR B w ps pa pr s j m) (hs : s.size ≤ 1048576) :
    Calls Tryz.prog 77 #[.pointer (some ⟨pr, 0, none⟩)] w (PartPost (fun _ => ⟨#[]⟩) (fun t => t) B ps pa pr s m w (rdVa n (restOf s j))) := by
  have hl1 := hv.lts
  have hl2 := hv.lta
  have hl3 := hv.ltr
  obtain ⟨hb0, z0, hs0⟩ := boxes1 w 106 #[.string ⟨#[]⟩, .int .i64 0, .int .i64 0, .string ⟨#[]⟩, .slice none 0 0, .slice none 0 0]
  have hv0 := hv.keep hb0
  have HC := Lib.hid (H B _ ps pa pr j s hv0 hs)
  have HB0 := Lib.hid hb0
  have HZ0 := Lib.hid z0
  have HS0 := Lib.hid hs0
  clear H hv hv0 hb0 z0 hs0
  go_enter Tryz.func77, Tryz.ntmps77
  go_wp2_with fail
  generalize w.alloc (.cells #[.string ⟨#[]⟩, .int .i64 0, .int .i64 0, .string ⟨#[]⟩, .slice none 0 0, .slice none 0 0] 106) = wa at *
  refine HC.out.mono ?_
  rintro e w3 ⟨k, n0, nm, L, nl, lc, A, na, ac, ok, j3, m3, rfl, hv3, hT3, hor⟩
  have z3 := turn_stays hT3 HZ0.out (by omega) (by omega)
  have hwl : w.heap.size < wa.heap.size := HZ0.out.lt
  have HV3 := Lib.hid hv3
  have HT3 := Lib.hid ((Turn.of_below HB0.out).trans hT3)
  have HZ3 := Lib.hid z3
  have HOR := Lib.hid hor
  have hsz3 := hT3.size
  clear hv3 hT3 z3 hor HC HB0 HZ0 HS0
  go_upto_region 2 with fail
  have HQ4 := Lib.hid (Whole1.new w3 27 #[.int .i64 k, .int .i64 n0, .string nm, .slice L nl lc, .slice A na ac])
  have hb4 := (Below.refl w3.heap.size w3).alloc (Nat.le_refl _) (.cells #[.int .i64 k, .int .i64 n0, .string nm, .slice L nl lc, .slice A na ac] 27)
  have HV4 := Lib.hid (HV3.out.keep hb4)
  have HT4 := Lib.hid (HT3.out.below hb4 HT3.out.size)
  have HZ4 := Lib.hid (HZ3.out.below hb4 HZ3.out.lt)
  have HB4 := Lib.hid hb4
  clear hb4 HV3 HT3 HZ3
  generalize w3.alloc (.cells #[.int .i64 k, .int .i64 n0, .string nm, .slice L nl lc, .slice A na ac] 27) = w4 at *
  have q0 : w4.cell? ⟨w3.heap.size, 0, none⟩ = some (.int .i64 k) := HQ4.out.cell 0
  have q1 : w4.cell? ⟨w3.heap.size, 1, none⟩ = some (.int .i64 n0) := HQ4.out.cell 1
  have q2 : w4.cell? ⟨w3.heap.size, 2, none⟩ = some (.string nm) := HQ4.out.cell 2
  have q3 : w4.cell? ⟨w3.heap.size, 3, none⟩ = some (.slice L nl lc) := HQ4.out.cell 3
  have q4 : w4.cell? ⟨w3.heap.size, 4, none⟩ = some (.slice A na ac) := HQ4.out.cell 4
  have d0 : w4.cell? ⟨w.heap.size, 0, none⟩ = some (.string ⟨#[]⟩) := HZ4.out.cell 0
  have d1 : w4.cell? ⟨w.heap.size, 1, none⟩ = some (.int .i64 0) := HZ4.out.cell 1
  have d2 : w4.cell? ⟨w.heap.size, 2, none⟩ = some (.int .i64 0) := HZ4.out.cell 2
  have d3 : w4.cell? ⟨w.heap.size, 3, none⟩ = some (.string ⟨#[]⟩) := HZ4.out.cell 3
  have d4 : w4.cell? ⟨w.heap.size, 4, none⟩ = some (.slice none 0 0) := HZ4.out.cell 4
  have d5 : w4.cell? ⟨w.heap.size, 5, none⟩ = some (.slice none 0 0) := HZ4.out.cell 5
  have f0 : w4.frozen? ⟨w.heap.size, 0, none⟩ = false := HZ4.out.free 0
  have f1 : w4.frozen? ⟨w.heap.size, 1, none⟩ = false := HZ4.out.free 1
  have f2 : w4.frozen? ⟨w.heap.size, 2, none⟩ = false := HZ4.out.free 2
  have f3 : w4.frozen? ⟨w.heap.size, 3, none⟩ = false := HZ4.out.free 3
  have f4 : w4.frozen? ⟨w.heap.size, 4, none⟩ = false := HZ4.out.free 4
  have f5 : w4.frozen? ⟨w.heap.size, 5, none⟩ = false := HZ4.out.free 5
  go_wp2
  refine bodyPost_ret (v := .tuple #[.agg #[.string ⟨#[]⟩, .int .i64 k, .int .i64 n0, .string nm, .slice L nl lc, .slice A na ac], .bool ok]) (by simp [results, Tryz.results77, go_sem, d0, d1, d2, d3, d4, d5]) rfl ⟨⟨#[]⟩, k, n0, nm, L, nl, lc, A, na, ac, ok, j3, m3, rfl, HV4.out.below (set6_below _ _ _ _ _ _ _ _) hl1 hl2 hl3, HT4.out.below (set6_below _ _ _ _ _ _ _ _) (Nat.le_refl _), ?_⟩
  rcases HOR.out with ⟨h1, h2⟩ | ⟨h1, t, h2, h3, h4, h5⟩
  · exact Or.inl ⟨h1, h2⟩
  · exact Or.inr ⟨h1, t, h2, rfl, by decide, h3, h4, ((h5.keep HB4.out.size fun g _ hg => HB4.out.block g hg).set6 _ hwl _ _ _ _ _ _).base (by omega)⟩

end Go.Proofs.YtceclhndagoddaaGreatDoor
end
