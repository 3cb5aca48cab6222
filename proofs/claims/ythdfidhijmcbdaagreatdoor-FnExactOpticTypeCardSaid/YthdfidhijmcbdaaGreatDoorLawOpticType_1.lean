/- Lemmas: TypLib, TypLeaf, TypTwo, TypMap, TypElse. -/
import Derived.Test.YthdfidhijmcbdaaGreatDoorOType
import Derived.Test.YthdfidhijmcbdaaGreatDoorImplSize
import Derived.Test.YthdfidhijmcbdaaGreatDoorSpecOLeaf
import Derived.Test.YthdfidhijmcbdaaGreatDoorImplPart
import Derived.Test.YthdfidhijmcbdaaGreatDoorImplUniform
import Derived.Deep.RegionHeld3
import Derived.Deep.RegionWith
import Derived.StillTailTactics
import Derived.Test.YthdfidhijmcbdaaGreatDoorSpecOTwo
import Derived.Test.YthdfidhijmcbdaaGreatDoorImplKind
import Derived.Test.YthdfidhijmcbdaaGreatDoorSpecOType
import Derived.Deep.CutRange
import Derived.Deep.DeepCutAuto
import Derived.Test.YthdfidhijmcbdaaGreatDoorImplEqual

section
namespace Go.Proofs.YthdfidhijmcbdaaGreatDoor
set_option maxRecDepth 100000
open Go.RowKit

theorem tyRow_one {W : World} {g : Nat} {a b c : Value} (hw : Whole1 W g 27 #[a, b, c]) : ElemRow 3 27 W g 1 (fun _ => .agg #[a, b, c]) := by
  refine ⟨_, hw, fun i hi j hj => ?_⟩
  obtain rfl : i = 0 := by omega
  have h4 : j = 0 ∨ j = 1 ∨ j = 2 := by omega
  rcases h4 with rfl | rfl | rfl <;> exact ⟨rfl, rfl⟩

/-- A tree in blocks of its own, none of which is of those named. -/
def OwnA (N : Nat → Prop) (w : World) (v : Value) (t : Ty) : Prop := ∃ S, TyIn w S v t ∧ ∀ b, S b → b < w.heap.size ∧ ¬ N b
theorem OwnA.own {N : Nat → Prop} {w : World} {v : Value} {t : Ty} (h : OwnA N w v t) : OwnT w v t := by
  obtain ⟨S, h1, h2⟩ := h
  exact ⟨S, h1, fun b hb => (h2 b hb).1⟩
theorem OwnT.any {w : World} {v : Value} {t : Ty} (h : OwnT w v t) : OwnA (fun _ => False) w v t := by
  obtain ⟨S, h1, h2⟩ := h
  exact ⟨S, h1, fun b hb => ⟨h2 b hb, id⟩⟩
theorem OwnA.up {N : Nat → Prop} {w w' : World} {v : Value} {t : Ty} (h : OwnA N w v t) (hb : Below w.heap.size w w') : OwnA N w' v t := by
  obtain ⟨S, h1, h2⟩ := h
  exact ⟨S, h1.keep fun b _ hl => hb.block b hl, fun b hb' => ⟨Nat.lt_of_lt_of_le (h2 b hb').1 hb.size, (h2 b hb').2⟩⟩
theorem OwnA.less {N N' : Nat → Prop} {w : World} {v : Value} {t : Ty} (h : OwnA N w v t) (hN : ∀ b, N' b → N b) : OwnA N' w v t := by
  obtain ⟨S, h1, h2⟩ := h
  exact ⟨S, h1, fun b hb => ⟨(h2 b hb).1, fun hn => (h2 b hb).2 (hN b hn)⟩⟩
/-- Blocks that are not there yet are kept clear of. -/
theorem OwnA.late {N : Nat → Prop} {w : World} {v : Value} {t : Ty} (h : OwnA N w v t) (z : Nat) (hz : w.heap.size ≤ z) : OwnA (fun b => N b ∨ b = z) w v t := by
  obtain ⟨S, h1, h2⟩ := h
  exact ⟨S, h1, fun b hb => ⟨(h2 b hb).1, fun hn => hn.elim (h2 b hb).2 fun e => by have := (h2 b hb).1; omega⟩⟩
theorem OwnA.of_in {N : Nat → Prop} {w : World} {lo : Nat} {v : Value} {t : Ty} (h : TyIn w (Span lo w.heap.size) v t) (hN : ∀ b, N b → b < lo) : OwnA N w v t :=
  ⟨_, h, fun b hb => ⟨hb.2, fun hn => by have := hN b hn; have := hb.1; omega⟩⟩
theorem OwnA.open {N : Nat → Prop} {w : World} {v : Value} {t : Ty} (h : OwnA N w v t) : ∃ L lc A ac, v = .agg #[.int .i64 t.kind, .slice L t.labels.length lc, .slice A t.args.length ac] := by
  obtain ⟨L, lc, A, ac, hv, _⟩ := h.own.open
  exact ⟨L, lc, A, ac, hv⟩
/-- A part. -/
theorem OwnA.elem {N : Nat → Prop} {w : World} {a : Value} {L A : Option Addr} {n lc m ac : Nat} {t : Ty} (h : OwnA N w (.agg #[a, .slice L n lc, .slice A m ac]) t) (i : Nat) (hi : i < t.args.length) :
    ∃ g L' lc' A' ac', A = some ⟨g, 0, none⟩ ∧ g < w.heap.size ∧ w.cell? ⟨g, i * 3, none⟩ = some (.int .i64 t.args[i].kind) ∧ w.cell? ⟨g, i * 3 + 1, none⟩ = some (.slice L' t.args[i].labels.length lc') ∧
      w.cell? ⟨g, i * 3 + 2, none⟩ = some (.slice A' t.args[i].args.length ac') ∧ OwnA N w (.agg #[.int .i64 t.args[i].kind, .slice L' t.args[i].labels.length lc', .slice A' t.args[i].args.length ac']) t.args[i] := by
  obtain ⟨S, h1, hS⟩ := h
  obtain ⟨L0, lc0, A0, ac0, gl, hveq, _, _, _, ha⟩ := h1.open
  simp only [Value.agg.injEq, Array.mk.injEq, List.cons.injEq, Value.slice.injEq, and_true] at hveq
  obtain ⟨_, _, rfl, _, _⟩ := hveq
  obtain ⟨_, ga, vs, Ss, hes, hsub, _, hks⟩ := ha
  rcases hes with hes | ⟨rfl, h5, h6⟩
  · rw [hes] at hi
    exact absurd hi (by simp)
  · obtain ⟨L', lc', A', ac', hv⟩ := (OwnA.open (N := N) ⟨_, hks i hi, fun b hb => hS b (hsub i hi b hb).1.1⟩)
    have e0 := h6.cell i 0 hi (by omega)
    have e1 := h6.cell i 1 hi (by omega)
    have e2 := h6.cell i 2 hi (by omega)
    rw [hv] at e0 e1 e2
    have hk := hks i hi
    rw [hv] at hk
    exact ⟨ga, L', lc', A', ac', rfl, (hS _ h5.1).1, e0, e1, e2, _, hk, fun b hb => hS b (hsub i hi b hb).1.1⟩

/-- A list of one part that lies there already. -/
theorem list_own {N : Nat → Prop} {w W : World} {g ac : Nat} {k : Int} {a b c : Value} {t : Ty} (h : OwnA N w (.agg #[a, b, c]) t) (hN : ∀ q, N q → q < w.heap.size) (hb : Below w.heap.size w W) (hg : w.heap.size ≤ g) (hw : Whole1 W g 27 #[a, b, c]) :
    OwnA N W (.agg #[.int .i64 k, .slice none 0 0, .slice (some ⟨g, 0, none⟩) 1 ac]) (.mk k [] [t]) := by
  obtain ⟨S0, h3, h4⟩ := h
  have h5 : TyIn W S0 (.agg #[a, b, c]) t := h3.keep fun q hq hl => hb.block q hl
  refine ⟨fun q => S0 q ∨ q = g, ?_, fun q hq => ?_⟩
  · refine TyIn.mk (k := k) (ls := []) (ts := [t]) (g + 1) g (fun _ => .agg #[a, b, c]) (fun _ => S0) (Nat.zero_le _) (fun i hi => absurd hi (by simp)) (by simp [maxLen]) (.inl rfl) (.inr ⟨rfl, .inr rfl, tyRow_one hw⟩) (by omega) (fun i hi q hq => ⟨.inl hq, by have := (h4 q hq).1; omega, by have := (h4 q hq).1; omega⟩) (fun i j hi hj hij => absurd hij (by simp only [List.length_cons, List.length_nil] at hi hj; omega)) (fun i hi => ?_)
    obtain rfl : i = 0 := by simp only [List.length_cons, List.length_nil] at hi; omega
    exact h5
  · rcases hq with hq | rfl
    · exact ⟨Nat.lt_of_lt_of_le (h4 q hq).1 hb.size, (h4 q hq).2⟩
    · exact ⟨hw.lt, fun hn => by have := hN _ hn; omega⟩

/-- A record of one field that lies there already. -/
theorem wrap_own {N : Nat → Prop} {w W : World} {gl ga lc ac : Nat} {k : Int} {nm : ByteArray} {a b c : Value} {t : Ty} (h : OwnA N w (.agg #[a, b, c]) t) (hN : ∀ q, N q → q < w.heap.size) (hb : Below w.heap.size w W) (hl : w.heap.size ≤ gl) (hg : w.heap.size ≤ ga) (hne : gl ≠ ga) (hnm : nm.size ≤ maxLen)
    (hwl : Whole1 W gl 9 #[.string nm]) (hw : Whole1 W ga 27 #[a, b, c]) :
    OwnA N W (.agg #[.int .i64 k, .slice (some ⟨gl, 0, none⟩) 1 lc, .slice (some ⟨ga, 0, none⟩) 1 ac]) (.mk k [nm] [t]) := by
  obtain ⟨S0, h3, h4⟩ := h
  have h5 : TyIn W S0 (.agg #[a, b, c]) t := h3.keep fun q hq hl => hb.block q hl
  refine ⟨fun q => S0 q ∨ q = ga ∨ q = gl, ?_, fun q hq => ?_⟩
  · refine TyIn.mk (k := k) (ls := [nm]) (ts := [t]) gl ga (fun _ => .agg #[a, b, c]) (fun _ => S0) (by simp [maxLen]) (fun i hi => ?_) (by simp [maxLen]) (.inr ⟨rfl, .inr (.inr rfl), RowStrs.of_whole hwl⟩) (.inr ⟨rfl, .inr (.inl rfl), tyRow_one hw⟩) hne (fun i hi q hq => ⟨.inl hq, by have := (h4 q hq).1; omega, by have := (h4 q hq).1; omega⟩) (fun i j hi hj hij => absurd hij (by simp only [List.length_cons, List.length_nil] at hi hj; omega)) (fun i hi => ?_)
    · obtain rfl : i = 0 := by simp only [List.length_cons, List.length_nil] at hi; omega
      exact hnm
    · obtain rfl : i = 0 := by simp only [List.length_cons, List.length_nil] at hi; omega
      exact h5
  · rcases hq with hq | rfl | rfl
    · exact ⟨Nat.lt_of_lt_of_le (h4 q hq).1 hb.size, (h4 q hq).2⟩
    · exact ⟨hw.lt, fun hn => by have := hN _ hn; omega⟩
    · exact ⟨hwl.lt, fun hn => by have := hN _ hn; omega⟩

def noTy : Ty := .mk 0 [] []
theorem noTy_own (N : Nat → Prop) (w : World) : OwnA N w (.agg #[.int .i64 0, .slice none 0 0, .slice none 0 0]) noTy :=
  ⟨fun _ => False, TyIn.mk (k := 0) (ls := []) (ts := []) 0 1 (fun _ => .bool false) (fun _ _ => False) (Nat.zero_le _) (fun i h => absurd h (by simp)) (Nat.zero_le _) (.inl rfl) (.inl rfl) (by omega) (fun i hi => absurd hi (by simp)) (fun i _ hi => absurd hi (by simp)) (fun i hi => absurd hi (by simp)), fun _ h => h.elim⟩

/-- What is handed back: a type, a kind, and no error or the one that there is. -/
def TypPost (N : Nat → Prop) (u : Value) (r : Option (Ty × Int)) (w : World) (e : Ending) (w' : World) : Prop :=
  ∃ L lc A ac t kd x, e = .returned (.tuple #[.agg #[.int .i64 t.kind, .slice L t.labels.length lc, .slice A t.args.length ac, .int .i64 kd], x]) ∧ OwnA N w' (.agg #[.int .i64 t.kind, .slice L t.labels.length lc, .slice A t.args.length ac]) t ∧ Below w.heap.size w w' ∧ szTy t ≤ 2000 ∧ ((r = none ∧ x = u) ∨ (r = some (t, kd) ∧ x = .nilIface))

theorem set4_heap (W : World) (z q : Nat) (hq : q ≠ z) (a b c d : Value) : ((((W.setCell ⟨z, 0, none⟩ a).setCell ⟨z, 1, none⟩ b).setCell ⟨z, 2, none⟩ c).setCell ⟨z, 3, none⟩ d).heap[q]? = W.heap[q]? := by
  rw [Below.heap_setCell _ _ _ _ hq, Below.heap_setCell _ _ _ _ hq, Below.heap_setCell _ _ _ _ hq, Below.heap_setCell _ _ _ _ hq]
theorem OwnA.set {N : Nat → Prop} {W : World} {z : Nat} {v : Value} {t : Ty} (h : OwnA (fun b => N b ∨ b = z) W v t) (a b c d : Value) : OwnA N ((((W.setCell ⟨z, 0, none⟩ a).setCell ⟨z, 1, none⟩ b).setCell ⟨z, 2, none⟩ c).setCell ⟨z, 3, none⟩ d) v t := by
  obtain ⟨S, h1, h2⟩ := h
  refine ⟨S, h1.keep fun q hq _ => set4_heap W z q (fun e => (h2 q hq).2 (.inr e)) a b c d, fun q hq => ⟨?_, fun hn => (h2 q hq).2 (.inl hn)⟩⟩
  have := (h2 q hq).1
  simpa [World.setCell] using this
theorem set4_below {w W : World} {z : Nat} (hz : w.heap.size ≤ z) (hb : Below w.heap.size w W) (a b c d : Value) : Below w.heap.size w ((((W.setCell ⟨z, 0, none⟩ a).setCell ⟨z, 1, none⟩ b).setCell ⟨z, 2, none⟩ c).setCell ⟨z, 3, none⟩ d) :=
  (((hb.setCell (p := ⟨z, 0, none⟩) hz _).setCell (p := ⟨z, 1, none⟩) hz _).setCell (p := ⟨z, 2, none⟩) hz _).setCell (p := ⟨z, 3, none⟩) hz _
theorem OwnA.drew {N : Nat → Prop} {W : World} {v : Value} {t : Ty} (h : OwnA N W v t) : OwnA N W.drew v t := h.up (Below.refl _ _).drew

/-- The end: the struct is laid in box z, then handed back. -/
theorem typ_fin {N : Nat → Prop} {u : Value} {r : Option (Ty × Int)} {w W : World} {z lc ac : Nat} {L A : Option Addr} {x : Value} {t : Ty} {kd : Int} (hz : w.heap.size ≤ z) (hb : Below w.heap.size w W) (hv : OwnA (fun b => N b ∨ b = z) W (.agg #[.int .i64 t.kind, .slice L t.labels.length lc, .slice A t.args.length ac]) t) (hs : szTy t ≤ 2000) (ho : (r = none ∧ x = u) ∨ (r = some (t, kd) ∧ x = .nilIface)) (a b c d : Value) :
    TypPost N u r w (.returned (.tuple #[.agg #[.int .i64 t.kind, .slice L t.labels.length lc, .slice A t.args.length ac, .int .i64 kd], x])) ((((W.setCell ⟨z, 0, none⟩ a).setCell ⟨z, 1, none⟩ b).setCell ⟨z, 2, none⟩ c).setCell ⟨z, 3, none⟩ d) :=
  ⟨L, lc, A, ac, t, kd, x, rfl, hv.set a b c d, set4_below hz hb a b c d, hs, ho⟩
theorem typ_drew {N : Nat → Prop} {u : Value} {r : Option (Ty × Int)} {w W : World} {e : Ending} (h : TypPost N u r w e W) : TypPost N u r w e W.drew := by
  obtain ⟨L, lc, A, ac, t, kd, x, h1, h2, h3, h4, h5⟩ := h
  exact ⟨L, lc, A, ac, t, kd, x, h1, h2.drew, h3.drew, h4, h5⟩
/-- No type: the error. -/
theorem typ_none {N : Nat → Prop} {u : Value} {r : Option (Ty × Int)} {w W : World} (hb : Below w.heap.size w W) (hr : r = none) :
    TypPost N u r w (.returned (.tuple #[.agg #[.int .i64 0, .slice none 0 0, .slice none 0 0, .int .i64 0], u])) W.drew :=
  typ_drew ⟨none, 0, none, 0, noTy, 0, u, rfl, noTy_own _ _, hb, by simp [noTy, szTy_eq, Ty.labels, Ty.args, sumSizes, szTys], .inl ⟨hr, rfl⟩⟩
theorem typ_none4 {N : Nat → Prop} {u : Value} {r : Option (Ty × Int)} {w W : World} {z : Nat} (hz : w.heap.size ≤ z) (hb : Below w.heap.size w W) (hr : r = none) (a b c d : Value) :
    TypPost N u r w (.returned (.tuple #[.agg #[.int .i64 0, .slice none 0 0, .slice none 0 0, .int .i64 0], u])) ((((W.setCell ⟨z, 0, none⟩ a).setCell ⟨z, 1, none⟩ b).setCell ⟨z, 2, none⟩ c).setCell ⟨z, 3, none⟩ d) :=
  typ_fin (t := noTy) hz hb (noTy_own _ _) (by simp [noTy, szTy_eq, Ty.labels, Ty.args, sumSizes, szTys]) (.inl ⟨hr, rfl⟩) a b c d
theorem typ_none0 {N : Nat → Prop} {u : Value} {r : Option (Ty × Int)} {w W : World} (hb : Below w.heap.size w W) (hr : r = none) :
    TypPost N u r w (.returned (.tuple #[.agg #[.int .i64 0, .slice none 0 0, .slice none 0 0, .int .i64 0], u])) W :=
  ⟨none, 0, none, 0, noTy, 0, u, rfl, noTy_own _ _, hb, by simp [noTy, szTy_eq, Ty.labels, Ty.args, sumSizes, szTys], .inl ⟨hr, rfl⟩⟩

/-- The variable of the error. -/
def UnfitAt (w : World) (u : Value) : Prop := 0 < w.heap.size ∧ w.cell? ⟨0, 0, none⟩ = some u ∧ ∃ a, u = .iface 195 (.pointer (some a))
theorem UnfitAt.below {w w' : World} {u : Value} (h : UnfitAt w u) (hb : Below w.heap.size w w') : UnfitAt w' u := ⟨Nat.lt_of_lt_of_le h.1 hb.size, (hb.cell (p := ⟨0, 0, none⟩) h.1).trans h.2.1, h.2.2⟩

theorem boxes4 (w : World) (t1 t2 t3 t4 : TypeId) (a b c d : Array Value) :
    Below w.heap.size w ((((w.alloc (.cells a t1)).alloc (.cells b t2)).alloc (.cells c t3)).alloc (.cells d t4)) ∧ Whole1 ((((w.alloc (.cells a t1)).alloc (.cells b t2)).alloc (.cells c t3)).alloc (.cells d t4)) w.heap.size t1 a ∧
    Whole1 ((((w.alloc (.cells a t1)).alloc (.cells b t2)).alloc (.cells c t3)).alloc (.cells d t4)) (w.heap.size + 1) t2 b ∧ Whole1 ((((w.alloc (.cells a t1)).alloc (.cells b t2)).alloc (.cells c t3)).alloc (.cells d t4)) (w.heap.size + 1 + 1) t3 c ∧
    Whole1 ((((w.alloc (.cells a t1)).alloc (.cells b t2)).alloc (.cells c t3)).alloc (.cells d t4)) (w.heap.size + 1 + 1 + 1) t4 d := by
  obtain ⟨h1, h2, h3, h4⟩ := boxes2 w t1 t2 a b
  obtain ⟨g1, g2, g3, g4⟩ := boxes2 ((w.alloc (.cells a t1)).alloc (.cells b t2)) t3 t4 c d
  refine ⟨h1.trans (g1.mono h1.size), h2.below g1 h2.lt, h3.below g1 h3.lt, ?_, ?_⟩
  · have := g2
    rwa [h4] at this
  · have := g3
    rwa [h4] at this
theorem typ_far {W : World} {g b i : Nat} (x y z u v : Value) (h : W.cell? ⟨b, i, none⟩ = some v) (hne : g ≠ b) : ((((W.setCell ⟨g, 0, none⟩ x).setCell ⟨g, 1, none⟩ y).setCell ⟨g, 2, none⟩ z).setCell ⟨g, 3, none⟩ u).cell? ⟨b, i, none⟩ = some v := by
  have hh := set4_heap W g b (Ne.symm hne) x y z u
  simp only [World.cell?] at h ⊢
  rw [hh]
  exact h

/-- The box of the struct that is handed back. -/
theorem boxesT (w : World) (t1 t4 : TypeId) (a d : Array Value) :
    Below w.heap.size w ((w.alloc (.cells a t1)).alloc (.cells d t4)) ∧ Whole1 ((w.alloc (.cells a t1)).alloc (.cells d t4)) w.heap.size t1 a ∧ Whole1 ((w.alloc (.cells a t1)).alloc (.cells d t4)) (w.heap.size + 1) t4 d := by
  obtain ⟨h1, h2, h3, _⟩ := boxes2 w t1 t4 a d
  exact ⟨h1, h2, h3⟩

end Go.Proofs.YthdfidhijmcbdaaGreatDoor
end

section
namespace Go.Proofs.YthdfidhijmcbdaaGreatDoor
set_option maxRecDepth 100000
set_option linter.unusedSimpArgs false
open Go.RowKit
attribute [local go_sem ↓] Go.wp_at_zero Go.wp_at_succ

set_option maxHeartbeats 1000000 in
theorem typElements_any {N : Nat → Prop} {u : Value} {r : Option (Ty × Int)} (t : Ty) (v : Value) (kd : Int) (w : World) (hN : ∀ b, N b → b < w.heap.size) (hU : UnfitAt w u) (hv : OwnA N w v t) (hval : validB t = true) (hr : r = if t.kind = 5 then t.args[0]?.map (·, kd) else none) :
    Calls Tryz.prog 114 #[v, .int .i64 kd] w (TypPost N u r w) := by
  have HR := Lib.hid hr
  clear hr
  have hse := szTy_valid hval
  obtain ⟨L, lc, A, ac, rfl⟩ := hv.open
  obtain ⟨hb0, p0, z0, hs0⟩ := boxes2 w 27 60 #[.int .i64 t.kind, .slice L t.labels.length lc, .slice A t.args.length ac] #[.int .i64 0, .slice none 0 0, .slice none 0 0, .int .i64 0]
  have hv0 := (hv.late (w.heap.size + 1) (by omega)).up hb0
  have hN0 : ∀ b, (N b ∨ b = w.heap.size + 1) → b < ((w.alloc (.cells #[.int .i64 t.kind, .slice L t.labels.length lc, .slice A t.args.length ac] 27)).alloc (.cells #[.int .i64 0, .slice none 0 0, .slice none 0 0, .int .i64 0] 60)).heap.size := fun b hb => hb.elim (fun hb => Nat.lt_of_lt_of_le (hN b hb) hb0.size) (fun e => e ▸ z0.lt)
  have HU0 := Lib.hid (hU.below hb0)
  have HZ := Lib.hid (show w.heap.size ≤ w.heap.size + 1 by omega)
  clear hv hU hN hs0
  go_enter Tryz.func114, Tryz.ntmps114
  go_upto_region 1 with fail
  generalize (w.alloc (.cells #[.int .i64 t.kind, .slice L t.labels.length lc, .slice A t.args.length ac] 27)).alloc (.cells #[.int .i64 0, .slice none 0 0, .slice none 0 0, .int .i64 0] 60) = w0 at *
  have c0 : w0.cell? ⟨w.heap.size, 0, none⟩ = some (.int .i64 t.kind) := p0.cell 0
  have c1 : w0.cell? ⟨w.heap.size, 1, none⟩ = some (.slice L t.labels.length lc) := p0.cell 1
  have c2 : w0.cell? ⟨w.heap.size, 2, none⟩ = some (.slice A t.args.length ac) := p0.cell 2
  by_cases h5 : t.kind = 5
  · have i1 : (t.kind != 5) = false := by simp [h5]
    obtain ⟨k, ls, ts⟩ := t
    simp only [Ty.kind, Ty.labels, Ty.args] at *
    subst h5
    obtain ⟨te, rfl⟩ := list_one hval
    obtain ⟨g, L', lc', A', ac', rfl, hg, x0, x1, x2, hx⟩ := hv0.elem 0 (by simp [Ty.args])
    have hse1 : szTy te ≤ 660 := sz_argV hval 0 (by simp [Ty.args])
    have y0 : w0.cell? ⟨g, 0, none⟩ = some (.int .i64 te.kind) := x0
    have y1 : w0.cell? ⟨g, 1, none⟩ = some (.slice L' te.labels.length lc') := x1
    have y2 : w0.cell? ⟨g, 2, none⟩ = some (.slice A' te.args.length ac') := x2
    have hy : OwnA (fun b => N b ∨ b = w.heap.size + 1) w0 (.agg #[.int .i64 te.kind, .slice L' te.labels.length lc', .slice A' te.args.length ac']) te := hx
    clear x0 x1 x2 hx
    have HF := Lib.hid (fun a b c d => typ_fin (u := u) (r := r) (kd := kd) HZ.out hb0 hy (by omega) (.inr ⟨HR.out, rfl⟩) a b c d)
    have d0 : w0.cell? ⟨w.heap.size + 1, 0, none⟩ = some (.int .i64 0) := z0.cell 0
    have df0 : w0.frozen? ⟨w.heap.size + 1, 0, none⟩ = false := z0.free 0
    have d1 : w0.cell? ⟨w.heap.size + 1, 1, none⟩ = some (.slice none 0 0) := z0.cell 1
    have df1 : w0.frozen? ⟨w.heap.size + 1, 1, none⟩ = false := z0.free 1
    have d2 : w0.cell? ⟨w.heap.size + 1, 2, none⟩ = some (.slice none 0 0) := z0.cell 2
    have df2 : w0.frozen? ⟨w.heap.size + 1, 2, none⟩ = false := z0.free 2
    have d3 : w0.cell? ⟨w.heap.size + 1, 3, none⟩ = some (.int .i64 0) := z0.cell 3
    have df3 : w0.frozen? ⟨w.heap.size + 1, 3, none⟩ = false := z0.free 3
    clear hy hv0 hval hb0 p0 z0 HU0 HZ hse hse1 hg hN0
    go_wp2
    exact bodyPost_ret (v := .tuple #[.agg #[.int .i64 te.kind, .slice L' te.labels.length lc', .slice A' te.args.length ac', .int .i64 kd], .nilIface]) (by simp [results, Tryz.results114, go_sem, d0, d1, d2, d3]) rfl (HF.out _ _ _ _)
  · have i1 : (t.kind != 5) = true := by simpa using h5
    have HRN := Lib.hid (HR.out.trans (if_neg h5))
    have HB := Lib.hid hb0
    have HU := HU0
    have zz := z0
    clear h5 hv0 hval hb0 p0 z0 HU0 HZ hse hN0
    have d0 : w0.cell? ⟨w.heap.size + 1, 0, none⟩ = some (.int .i64 0) := zz.cell 0
    have df0 : w0.frozen? ⟨w.heap.size + 1, 0, none⟩ = false := zz.free 0
    have d1 : w0.cell? ⟨w.heap.size + 1, 1, none⟩ = some (.slice none 0 0) := zz.cell 1
    have df1 : w0.frozen? ⟨w.heap.size + 1, 1, none⟩ = false := zz.free 1
    have d2 : w0.cell? ⟨w.heap.size + 1, 2, none⟩ = some (.slice none 0 0) := zz.cell 2
    have df2 : w0.frozen? ⟨w.heap.size + 1, 2, none⟩ = false := zz.free 2
    have d3 : w0.cell? ⟨w.heap.size + 1, 3, none⟩ = some (.int .i64 0) := zz.cell 3
    have df3 : w0.frozen? ⟨w.heap.size + 1, 3, none⟩ = false := zz.free 3
    have e0 : w0.drew.cell? ⟨w.heap.size + 1, 0, none⟩ = some (.int .i64 0) := d0
    have ef0 : w0.drew.frozen? ⟨w.heap.size + 1, 0, none⟩ = false := df0
    have e1 : w0.drew.cell? ⟨w.heap.size + 1, 1, none⟩ = some (.slice none 0 0) := d1
    have ef1 : w0.drew.frozen? ⟨w.heap.size + 1, 1, none⟩ = false := df1
    have e2 : w0.drew.cell? ⟨w.heap.size + 1, 2, none⟩ = some (.slice none 0 0) := d2
    have ef2 : w0.drew.frozen? ⟨w.heap.size + 1, 2, none⟩ = false := df2
    have e3 : w0.drew.cell? ⟨w.heap.size + 1, 3, none⟩ = some (.int .i64 0) := d3
    have ef3 : w0.drew.frozen? ⟨w.heap.size + 1, 3, none⟩ = false := df3
    obtain ⟨_, hu, ua, hua⟩ := HU.out
    subst hua
    have hud : w0.drew.cell? ⟨0, 0, none⟩ = some (.iface 195 (.pointer (some ua))) := hu
    have HF := Lib.hid (typ_none (N := N) (u := (.iface 195 (.pointer (some ua)))) HB.out HRN.out)
    have HG := Lib.hid (fun a b c d => typ_drew (typ_none4 (N := N) (u := (.iface 195 (.pointer (some ua)))) (show w.heap.size ≤ w.heap.size + 1 by omega) HB.out HRN.out a b c d))
    clear zz HU HB HRN
    go_wp2
    go_region
    go_wp2
    first | exact bodyPost_ret (v := .tuple #[.agg #[.int .i64 0, .slice none 0 0, .slice none 0 0, .int .i64 0], .iface 195 (.pointer (some ua))]) (by simp [results, Tryz.results114, go_sem, d0, d1, d2, d3, e0, e1, e2, e3]) rfl HF.out | exact bodyPost_ret (v := .tuple #[.agg #[.int .i64 0, .slice none 0 0, .slice none 0 0, .int .i64 0], .iface 195 (.pointer (some ua))]) (by simp [results, Tryz.results114, go_sem, d0, d1, d2, d3, e0, e1, e2, e3]) rfl (HG.out _ _ _ _)

set_option maxHeartbeats 1000000 in
theorem typChange_any {N : Nat → Prop} {u : Value} {r : Option (Ty × Int)} (t : Ty) (v : Value) (asked : Int) (w : World) (hN : ∀ b, N b → b < w.heap.size) (hU : UnfitAt w u) (hv : OwnA N w v t) (hval : validB t = true) (hr : r = if t.kind = asked then some (t, 1) else none) :
    Calls Tryz.prog 116 #[v, .int .i64 asked] w (TypPost N u r w) := by
  have HR := Lib.hid hr
  clear hr
  have hse := szTy_valid hval
  obtain ⟨L, lc, A, ac, rfl⟩ := hv.open
  obtain ⟨hb0, p0, z0, hs0⟩ := boxes2 w 27 60 #[.int .i64 t.kind, .slice L t.labels.length lc, .slice A t.args.length ac] #[.int .i64 0, .slice none 0 0, .slice none 0 0, .int .i64 0]
  have hv0 := (hv.late (w.heap.size + 1) (by omega)).up hb0
  have hN0 : ∀ b, (N b ∨ b = w.heap.size + 1) → b < ((w.alloc (.cells #[.int .i64 t.kind, .slice L t.labels.length lc, .slice A t.args.length ac] 27)).alloc (.cells #[.int .i64 0, .slice none 0 0, .slice none 0 0, .int .i64 0] 60)).heap.size := fun b hb => hb.elim (fun hb => Nat.lt_of_lt_of_le (hN b hb) hb0.size) (fun e => e ▸ z0.lt)
  have HU0 := Lib.hid (hU.below hb0)
  have HZ := Lib.hid (show w.heap.size ≤ w.heap.size + 1 by omega)
  clear hv hU hN hs0
  go_enter Tryz.func116, Tryz.ntmps116
  go_upto_region 1 with fail
  generalize (w.alloc (.cells #[.int .i64 t.kind, .slice L t.labels.length lc, .slice A t.args.length ac] 27)).alloc (.cells #[.int .i64 0, .slice none 0 0, .slice none 0 0, .int .i64 0] 60) = w0 at *
  have c0 : w0.cell? ⟨w.heap.size, 0, none⟩ = some (.int .i64 t.kind) := p0.cell 0
  have c1 : w0.cell? ⟨w.heap.size, 1, none⟩ = some (.slice L t.labels.length lc) := p0.cell 1
  have c2 : w0.cell? ⟨w.heap.size, 2, none⟩ = some (.slice A t.args.length ac) := p0.cell 2
  by_cases h5 : t.kind = asked
  · have i1 : (t.kind != asked) = false := by simp [h5]
    have HF := Lib.hid (fun a b c d => typ_fin (u := u) (r := r) (kd := 1) HZ.out hb0 hv0 (by omega) (.inr ⟨HR.out.trans (if_pos h5), rfl⟩) a b c d)
    have d0 : w0.cell? ⟨w.heap.size + 1, 0, none⟩ = some (.int .i64 0) := z0.cell 0
    have df0 : w0.frozen? ⟨w.heap.size + 1, 0, none⟩ = false := z0.free 0
    have d1 : w0.cell? ⟨w.heap.size + 1, 1, none⟩ = some (.slice none 0 0) := z0.cell 1
    have df1 : w0.frozen? ⟨w.heap.size + 1, 1, none⟩ = false := z0.free 1
    have d2 : w0.cell? ⟨w.heap.size + 1, 2, none⟩ = some (.slice none 0 0) := z0.cell 2
    have df2 : w0.frozen? ⟨w.heap.size + 1, 2, none⟩ = false := z0.free 2
    have d3 : w0.cell? ⟨w.heap.size + 1, 3, none⟩ = some (.int .i64 0) := z0.cell 3
    have df3 : w0.frozen? ⟨w.heap.size + 1, 3, none⟩ = false := z0.free 3
    clear hv0 hval hb0 p0 z0 HU0 HZ hse h5 hN0
    go_wp2
    exact bodyPost_ret (v := .tuple #[.agg #[.int .i64 t.kind, .slice L t.labels.length lc, .slice A t.args.length ac, .int .i64 1], .nilIface]) (by simp [results, Tryz.results116, go_sem, d0, d1, d2, d3]) rfl (HF.out _ _ _ _)
  · have i1 : (t.kind != asked) = true := by simpa using h5
    have HRN := Lib.hid (HR.out.trans (if_neg h5))
    have HB := Lib.hid hb0
    have HU := HU0
    have zz := z0
    clear h5 hv0 hval hb0 p0 z0 HU0 HZ hse hN0
    have d0 : w0.cell? ⟨w.heap.size + 1, 0, none⟩ = some (.int .i64 0) := zz.cell 0
    have df0 : w0.frozen? ⟨w.heap.size + 1, 0, none⟩ = false := zz.free 0
    have d1 : w0.cell? ⟨w.heap.size + 1, 1, none⟩ = some (.slice none 0 0) := zz.cell 1
    have df1 : w0.frozen? ⟨w.heap.size + 1, 1, none⟩ = false := zz.free 1
    have d2 : w0.cell? ⟨w.heap.size + 1, 2, none⟩ = some (.slice none 0 0) := zz.cell 2
    have df2 : w0.frozen? ⟨w.heap.size + 1, 2, none⟩ = false := zz.free 2
    have d3 : w0.cell? ⟨w.heap.size + 1, 3, none⟩ = some (.int .i64 0) := zz.cell 3
    have df3 : w0.frozen? ⟨w.heap.size + 1, 3, none⟩ = false := zz.free 3
    have e0 : w0.drew.cell? ⟨w.heap.size + 1, 0, none⟩ = some (.int .i64 0) := d0
    have ef0 : w0.drew.frozen? ⟨w.heap.size + 1, 0, none⟩ = false := df0
    have e1 : w0.drew.cell? ⟨w.heap.size + 1, 1, none⟩ = some (.slice none 0 0) := d1
    have ef1 : w0.drew.frozen? ⟨w.heap.size + 1, 1, none⟩ = false := df1
    have e2 : w0.drew.cell? ⟨w.heap.size + 1, 2, none⟩ = some (.slice none 0 0) := d2
    have ef2 : w0.drew.frozen? ⟨w.heap.size + 1, 2, none⟩ = false := df2
    have e3 : w0.drew.cell? ⟨w.heap.size + 1, 3, none⟩ = some (.int .i64 0) := d3
    have ef3 : w0.drew.frozen? ⟨w.heap.size + 1, 3, none⟩ = false := df3
    obtain ⟨_, hu, ua, hua⟩ := HU.out
    subst hua
    have hud : w0.drew.cell? ⟨0, 0, none⟩ = some (.iface 195 (.pointer (some ua))) := hu
    have HF := Lib.hid (typ_none (N := N) (u := (.iface 195 (.pointer (some ua)))) HB.out HRN.out)
    have HG := Lib.hid (fun a b c d => typ_drew (typ_none4 (N := N) (u := (.iface 195 (.pointer (some ua)))) (show w.heap.size ≤ w.heap.size + 1 by omega) HB.out HRN.out a b c d))
    clear zz HU HB HRN
    go_wp2
    go_region
    go_wp2
    first | exact bodyPost_ret (v := .tuple #[.agg #[.int .i64 0, .slice none 0 0, .slice none 0 0, .int .i64 0], .iface 195 (.pointer (some ua))]) (by simp [results, Tryz.results116, go_sem, d0, d1, d2, d3, e0, e1, e2, e3]) rfl HF.out | exact bodyPost_ret (v := .tuple #[.agg #[.int .i64 0, .slice none 0 0, .slice none 0 0, .int .i64 0], .iface 195 (.pointer (some ua))]) (by simp [results, Tryz.results116, go_sem, d0, d1, d2, d3, e0, e1, e2, e3]) rfl (HG.out _ _ _ _)

set_option maxHeartbeats 1000000 in
theorem typFields_any {N : Nat → Prop} {u : Value} {r : Option (Ty × Int)} (t : Ty) (v : Value) (w : World) (hN : ∀ b, N b → b < w.heap.size) (hU : UnfitAt w u) (hv : OwnA N w v t) (hval : validB t = true) (hr : r = if uniformB t then t.args[0]?.map (·, 5) else none) :
    Calls Tryz.prog 115 #[v] w (TypPost N u r w) := by
  have HR := Lib.hid hr
  clear hr
  have hse := szTy_valid hval
  obtain ⟨L, lc, A, ac, rfl⟩ := hv.open
  obtain ⟨hb0, p0, z0, hs0⟩ := boxes2 w 27 60 #[.int .i64 t.kind, .slice L t.labels.length lc, .slice A t.args.length ac] #[.int .i64 0, .slice none 0 0, .slice none 0 0, .int .i64 0]
  have hv0 := (hv.late (w.heap.size + 1) (by omega)).up hb0
  have hN0 : ∀ b, (N b ∨ b = w.heap.size + 1) → b < ((w.alloc (.cells #[.int .i64 t.kind, .slice L t.labels.length lc, .slice A t.args.length ac] 27)).alloc (.cells #[.int .i64 0, .slice none 0 0, .slice none 0 0, .int .i64 0] 60)).heap.size := fun b hb => hb.elim (fun hb => Nat.lt_of_lt_of_le (hN b hb) hb0.size) (fun e => e ▸ z0.lt)
  have HU0 := Lib.hid (hU.below hb0)
  have HZ := Lib.hid (show w.heap.size ≤ w.heap.size + 1 by omega)
  clear hv hU hN hs0
  go_enter Tryz.func115, Tryz.ntmps115
  go_upto_region 1 with fail
  generalize (w.alloc (.cells #[.int .i64 t.kind, .slice L t.labels.length lc, .slice A t.args.length ac] 27)).alloc (.cells #[.int .i64 0, .slice none 0 0, .slice none 0 0, .int .i64 0] 60) = w0 at *
  have HC := Lib.hid (implUniform_any t _ w0 hv0.own (by omega))
  have hpl := p0.lt
  have hzl := z0.lt
  have c0 : w0.cell? ⟨w.heap.size, 0, none⟩ = some (.int .i64 t.kind) := p0.cell 0
  have c1 : w0.cell? ⟨w.heap.size, 1, none⟩ = some (.slice L t.labels.length lc) := p0.cell 1
  have c2 : w0.cell? ⟨w.heap.size, 2, none⟩ = some (.slice A t.args.length ac) := p0.cell 2
  cases h5 : uniformB t
  · rw [h5] at HC
    have HRN := Lib.hid (HR.out.trans (by rw [h5]))
    clear hv0 hN0 h5 hse hval HR
    go_wp2_with fail
    refine HC.out.mono ?_
    rintro e w1 ⟨rfl, hb1⟩
    have HB := Lib.hid (hb0.trans (hb1.mono hb0.size))
    have HU := Lib.hid (HU0.out.below hb1)
    have zz := z0.below hb1 hzl
    clear c0 c1 c2 hb0 hb1 z0 p0 HU0 HZ hpl hzl HC
    have d0 : w1.cell? ⟨w.heap.size + 1, 0, none⟩ = some (.int .i64 0) := zz.cell 0
    have df0 : w1.frozen? ⟨w.heap.size + 1, 0, none⟩ = false := zz.free 0
    have d1 : w1.cell? ⟨w.heap.size + 1, 1, none⟩ = some (.slice none 0 0) := zz.cell 1
    have df1 : w1.frozen? ⟨w.heap.size + 1, 1, none⟩ = false := zz.free 1
    have d2 : w1.cell? ⟨w.heap.size + 1, 2, none⟩ = some (.slice none 0 0) := zz.cell 2
    have df2 : w1.frozen? ⟨w.heap.size + 1, 2, none⟩ = false := zz.free 2
    have d3 : w1.cell? ⟨w.heap.size + 1, 3, none⟩ = some (.int .i64 0) := zz.cell 3
    have df3 : w1.frozen? ⟨w.heap.size + 1, 3, none⟩ = false := zz.free 3
    have e0 : w1.drew.cell? ⟨w.heap.size + 1, 0, none⟩ = some (.int .i64 0) := d0
    have ef0 : w1.drew.frozen? ⟨w.heap.size + 1, 0, none⟩ = false := df0
    have e1 : w1.drew.cell? ⟨w.heap.size + 1, 1, none⟩ = some (.slice none 0 0) := d1
    have ef1 : w1.drew.frozen? ⟨w.heap.size + 1, 1, none⟩ = false := df1
    have e2 : w1.drew.cell? ⟨w.heap.size + 1, 2, none⟩ = some (.slice none 0 0) := d2
    have ef2 : w1.drew.frozen? ⟨w.heap.size + 1, 2, none⟩ = false := df2
    have e3 : w1.drew.cell? ⟨w.heap.size + 1, 3, none⟩ = some (.int .i64 0) := d3
    have ef3 : w1.drew.frozen? ⟨w.heap.size + 1, 3, none⟩ = false := df3
    obtain ⟨_, hu, ua, hua⟩ := HU.out
    subst hua
    have hud : w1.drew.cell? ⟨0, 0, none⟩ = some (.iface 195 (.pointer (some ua))) := hu
    have HF := Lib.hid (typ_none (N := N) (u := (.iface 195 (.pointer (some ua)))) HB.out HRN.out)
    have HG := Lib.hid (fun a b c d => typ_drew (typ_none4 (N := N) (u := (.iface 195 (.pointer (some ua)))) (show w.heap.size ≤ w.heap.size + 1 by omega) HB.out HRN.out a b c d))
    clear zz HU HB HRN
    go_wp2
    go_region
    go_wp2
    first | exact bodyPost_ret (v := .tuple #[.agg #[.int .i64 0, .slice none 0 0, .slice none 0 0, .int .i64 0], .iface 195 (.pointer (some ua))]) (by simp [results, Tryz.results115, go_sem, d0, d1, d2, d3, e0, e1, e2, e3]) rfl HF.out | exact bodyPost_ret (v := .tuple #[.agg #[.int .i64 0, .slice none 0 0, .slice none 0 0, .int .i64 0], .iface 195 (.pointer (some ua))]) (by simp [results, Tryz.results115, go_sem, d0, d1, d2, d3, e0, e1, e2, e3]) rfl (HG.out _ _ _ _)
  · rw [h5] at HC
    have hul := uniform_first h5
    have HR2 := Lib.hid (HR.out.trans (by rw [h5, if_pos rfl, List.getElem?_eq_getElem hul, Option.map_some]))
    clear h5 HR
    go_wp2_with fail
    refine HC.out.mono ?_
    rintro e w1 ⟨rfl, hb1⟩
    have hb1' := hb0.trans (hb1.mono hb0.size)
    have p1 := p0.below hb1 hpl
    have z1 := z0.below hb1 hzl
    have hv1 := hv0.up hb1
    obtain ⟨g, L', lc', A', ac', rfl, hg, x0, x1, x2, hx⟩ := hv1.elem 0 hul
    have hse1 : szTy t.args[0] ≤ 660 := sz_argV hval 0 hul
    simp only [Nat.zero_mul, Nat.zero_add] at x0 x1 x2
    have hlz : t.args.length ≠ 0 := by omega
    have hlI : (0 : Int) < (t.args.length : Int) := by omega
    generalize t.args[0] = te at *
    generalize t.args.length = n at *
    have HF := Lib.hid (fun a b c d => typ_fin (u := u) (r := r) (kd := 5) HZ.out hb1' hx (by omega) (.inr ⟨HR2.out, rfl⟩) a b c d)
    have k0 : w1.cell? ⟨w.heap.size, 0, none⟩ = some (.int .i64 t.kind) := p1.cell 0
    have k1 : w1.cell? ⟨w.heap.size, 1, none⟩ = some (.slice L t.labels.length lc) := p1.cell 1
    have k2 : w1.cell? ⟨w.heap.size, 2, none⟩ = some (.slice (some ⟨g, 0, none⟩) n ac) := p1.cell 2
    have d0 : w1.cell? ⟨w.heap.size + 1, 0, none⟩ = some (.int .i64 0) := z1.cell 0
    have df0 : w1.frozen? ⟨w.heap.size + 1, 0, none⟩ = false := z1.free 0
    have d1 : w1.cell? ⟨w.heap.size + 1, 1, none⟩ = some (.slice none 0 0) := z1.cell 1
    have df1 : w1.frozen? ⟨w.heap.size + 1, 1, none⟩ = false := z1.free 1
    have d2 : w1.cell? ⟨w.heap.size + 1, 2, none⟩ = some (.slice none 0 0) := z1.cell 2
    have df2 : w1.frozen? ⟨w.heap.size + 1, 2, none⟩ = false := z1.free 2
    have d3 : w1.cell? ⟨w.heap.size + 1, 3, none⟩ = some (.int .i64 0) := z1.cell 3
    have df3 : w1.frozen? ⟨w.heap.size + 1, 3, none⟩ = false := z1.free 3
    clear hx hv1 hv0 hval hb0 hb1 hb1' p0 z0 p1 z1 HU0 HZ HC hse hse1 hg hN0 hpl hzl HR2 c0 c1 c2
    go_wp2
    exact bodyPost_ret (v := .tuple #[.agg #[.int .i64 te.kind, .slice L' te.labels.length lc', .slice A' te.args.length ac', .int .i64 5], .nilIface]) (by simp [results, Tryz.results115, go_sem, d0, d1, d2, d3]) rfl (HF.out _ _ _ _)

set_option maxHeartbeats 1000000 in
theorem typPart_any {N : Nat → Prop} {u : Value} {r : Option (Ty × Int)} (t : Ty) (v : Value) (asked : Int) (l : ByteArray) (kd : Int) (w : World) (hN : ∀ b, N b → b < w.heap.size) (hU : UnfitAt w u) (hv : OwnA N w v t) (hval : validB t = true) (hr : r = if t.kind = asked then (partB t l).map (·, kd) else none) :
    Calls Tryz.prog 113 #[v, .int .i64 asked, .string l, .int .i64 kd] w (TypPost N u r w) := by
  have HR := Lib.hid hr
  clear hr
  have hse := szTy_valid hval
  obtain ⟨L, lc, A, ac, rfl⟩ := hv.open
  obtain ⟨hb0, p0, z0, hs0⟩ := boxes2 w 27 60 #[.int .i64 t.kind, .slice L t.labels.length lc, .slice A t.args.length ac] #[.int .i64 0, .slice none 0 0, .slice none 0 0, .int .i64 0]
  have hv0 := (hv.late (w.heap.size + 1) (by omega)).up hb0
  have hN0 : ∀ b, (N b ∨ b = w.heap.size + 1) → b < ((w.alloc (.cells #[.int .i64 t.kind, .slice L t.labels.length lc, .slice A t.args.length ac] 27)).alloc (.cells #[.int .i64 0, .slice none 0 0, .slice none 0 0, .int .i64 0] 60)).heap.size := fun b hb => hb.elim (fun hb => Nat.lt_of_lt_of_le (hN b hb) hb0.size) (fun e => e ▸ z0.lt)
  have HU0 := Lib.hid (hU.below hb0)
  have HZ := Lib.hid (show w.heap.size ≤ w.heap.size + 1 by omega)
  clear hv hU hN hs0
  go_enter Tryz.func113, Tryz.ntmps113
  go_upto_region 1 with fail
  generalize (w.alloc (.cells #[.int .i64 t.kind, .slice L t.labels.length lc, .slice A t.args.length ac] 27)).alloc (.cells #[.int .i64 0, .slice none 0 0, .slice none 0 0, .int .i64 0] 60) = w0 at *
  have HC := Lib.hid (implPart_any t l _ w0 hv0.own (by omega))
  have hpl := p0.lt
  have hzl := z0.lt
  have hps := sz_partB (s := t) (l := l)
  have c0 : w0.cell? ⟨w.heap.size, 0, none⟩ = some (.int .i64 t.kind) := p0.cell 0
  have c1 : w0.cell? ⟨w.heap.size, 1, none⟩ = some (.slice L t.labels.length lc) := p0.cell 1
  have c2 : w0.cell? ⟨w.heap.size, 2, none⟩ = some (.slice A t.args.length ac) := p0.cell 2
  clear hv0 hval
  go_wp2_with fail
  refine HC.out.mono ?_
  rintro e w1 ⟨v2, rfl, hv2, hb1⟩
  generalize hrr : partB t l = rr at *
  clear hrr
  have hv2a := OwnA.of_in (N := fun b => N b ∨ b = w.heap.size + 1) hv2 hN0
  generalize hpt : rr.getD zeroTy = pt at *
  obtain ⟨T1, U1, T2, U2, _, rfl, _⟩ := hv2.open
  have hb2 := (Below.refl w1.heap.size w1).alloc (Nat.le_refl _) (.cells #[.int .i64 pt.kind, .slice T1 pt.labels.length U1, .slice T2 pt.args.length U2] 27)
  have cb1 := hb0.trans (hb1.mono hb0.size)
  have cb2 := cb1.trans (hb2.mono cb1.size)
  have hv2b := hv2a.up hb2
  have zz := (z0.below hb1 hzl).below hb2 (z0.below hb1 hzl).lt
  have pp := (p0.below hb1 hpl).below hb2 (p0.below hb1 hpl).lt
  have HU := Lib.hid ((HU0.out.below hb1).below hb2)
  have HB := Lib.hid cb2
  have nn : Whole1 (w1.alloc (.cells #[.int .i64 pt.kind, .slice T1 pt.labels.length U1, .slice T2 pt.args.length U2] 27)) w1.heap.size 27 #[.int .i64 pt.kind, .slice T1 pt.labels.length U1, .slice T2 pt.args.length U2] := Whole1.new _ _ _
  have k0 : (w1.alloc (.cells #[.int .i64 pt.kind, .slice T1 pt.labels.length U1, .slice T2 pt.args.length U2] 27)).cell? ⟨w.heap.size, 0, none⟩ = some (.int .i64 t.kind) := pp.cell 0
  clear hv2 hv2a hb1 hb2 cb1 cb2 hb0 z0 p0 hpl hzl HU0 HC c0 c1 c2 pp hN0
  by_cases h5 : t.kind = asked
  · have i1 : (t.kind != asked) = false := by simp [h5]
    have HR2 := Lib.hid (HR.out.trans (if_pos h5))
    clear h5 HR
    cases rr with
    | none =>
      have HRN := Lib.hid (HR2.out.trans (rfl : ((none : Option Ty).map (·, kd)) = none))
      simp only [Option.isSome_none]
      clear HR2
      clear hv2b hps HZ hpt nn hse
      have d0 : (w1.alloc (.cells #[.int .i64 pt.kind, .slice T1 pt.labels.length U1, .slice T2 pt.args.length U2] 27)).cell? ⟨w.heap.size + 1, 0, none⟩ = some (.int .i64 0) := zz.cell 0
      have df0 : (w1.alloc (.cells #[.int .i64 pt.kind, .slice T1 pt.labels.length U1, .slice T2 pt.args.length U2] 27)).frozen? ⟨w.heap.size + 1, 0, none⟩ = false := zz.free 0
      have d1 : (w1.alloc (.cells #[.int .i64 pt.kind, .slice T1 pt.labels.length U1, .slice T2 pt.args.length U2] 27)).cell? ⟨w.heap.size + 1, 1, none⟩ = some (.slice none 0 0) := zz.cell 1
      have df1 : (w1.alloc (.cells #[.int .i64 pt.kind, .slice T1 pt.labels.length U1, .slice T2 pt.args.length U2] 27)).frozen? ⟨w.heap.size + 1, 1, none⟩ = false := zz.free 1
      have d2 : (w1.alloc (.cells #[.int .i64 pt.kind, .slice T1 pt.labels.length U1, .slice T2 pt.args.length U2] 27)).cell? ⟨w.heap.size + 1, 2, none⟩ = some (.slice none 0 0) := zz.cell 2
      have df2 : (w1.alloc (.cells #[.int .i64 pt.kind, .slice T1 pt.labels.length U1, .slice T2 pt.args.length U2] 27)).frozen? ⟨w.heap.size + 1, 2, none⟩ = false := zz.free 2
      have d3 : (w1.alloc (.cells #[.int .i64 pt.kind, .slice T1 pt.labels.length U1, .slice T2 pt.args.length U2] 27)).cell? ⟨w.heap.size + 1, 3, none⟩ = some (.int .i64 0) := zz.cell 3
      have df3 : (w1.alloc (.cells #[.int .i64 pt.kind, .slice T1 pt.labels.length U1, .slice T2 pt.args.length U2] 27)).frozen? ⟨w.heap.size + 1, 3, none⟩ = false := zz.free 3
      have e0 : (w1.alloc (.cells #[.int .i64 pt.kind, .slice T1 pt.labels.length U1, .slice T2 pt.args.length U2] 27)).drew.cell? ⟨w.heap.size + 1, 0, none⟩ = some (.int .i64 0) := d0
      have ef0 : (w1.alloc (.cells #[.int .i64 pt.kind, .slice T1 pt.labels.length U1, .slice T2 pt.args.length U2] 27)).drew.frozen? ⟨w.heap.size + 1, 0, none⟩ = false := df0
      have e1 : (w1.alloc (.cells #[.int .i64 pt.kind, .slice T1 pt.labels.length U1, .slice T2 pt.args.length U2] 27)).drew.cell? ⟨w.heap.size + 1, 1, none⟩ = some (.slice none 0 0) := d1
      have ef1 : (w1.alloc (.cells #[.int .i64 pt.kind, .slice T1 pt.labels.length U1, .slice T2 pt.args.length U2] 27)).drew.frozen? ⟨w.heap.size + 1, 1, none⟩ = false := df1
      have e2 : (w1.alloc (.cells #[.int .i64 pt.kind, .slice T1 pt.labels.length U1, .slice T2 pt.args.length U2] 27)).drew.cell? ⟨w.heap.size + 1, 2, none⟩ = some (.slice none 0 0) := d2
      have ef2 : (w1.alloc (.cells #[.int .i64 pt.kind, .slice T1 pt.labels.length U1, .slice T2 pt.args.length U2] 27)).drew.frozen? ⟨w.heap.size + 1, 2, none⟩ = false := df2
      have e3 : (w1.alloc (.cells #[.int .i64 pt.kind, .slice T1 pt.labels.length U1, .slice T2 pt.args.length U2] 27)).drew.cell? ⟨w.heap.size + 1, 3, none⟩ = some (.int .i64 0) := d3
      have ef3 : (w1.alloc (.cells #[.int .i64 pt.kind, .slice T1 pt.labels.length U1, .slice T2 pt.args.length U2] 27)).drew.frozen? ⟨w.heap.size + 1, 3, none⟩ = false := df3
      obtain ⟨_, hu, ua, hua⟩ := HU.out
      subst hua
      have hud : (w1.alloc (.cells #[.int .i64 pt.kind, .slice T1 pt.labels.length U1, .slice T2 pt.args.length U2] 27)).drew.cell? ⟨0, 0, none⟩ = some (.iface 195 (.pointer (some ua))) := hu
      have HF := Lib.hid (typ_none (N := N) (u := (.iface 195 (.pointer (some ua)))) HB.out HRN.out)
      have HG := Lib.hid (fun a b c d => typ_drew (typ_none4 (N := N) (u := (.iface 195 (.pointer (some ua)))) (show w.heap.size ≤ w.heap.size + 1 by omega) HB.out HRN.out a b c d))
      clear zz HU HB HRN
      go_wp2
      go_region
      go_wp2
      first | exact bodyPost_ret (v := .tuple #[.agg #[.int .i64 0, .slice none 0 0, .slice none 0 0, .int .i64 0], .iface 195 (.pointer (some ua))]) (by simp [results, Tryz.results113, go_sem, d0, d1, d2, d3, e0, e1, e2, e3]) rfl HF.out | exact bodyPost_ret (v := .tuple #[.agg #[.int .i64 0, .slice none 0 0, .slice none 0 0, .int .i64 0], .iface 195 (.pointer (some ua))]) (by simp [results, Tryz.results113, go_sem, d0, d1, d2, d3, e0, e1, e2, e3]) rfl (HG.out _ _ _ _)
    | some ra =>
      obtain rfl : ra = pt := hpt
      simp only [Option.isSome_some]
      have HF := Lib.hid (fun a b c d => typ_fin (u := u) (r := r) (kd := kd) HZ.out HB.out hv2b (Nat.le_trans hps (by omega)) (.inr ⟨HR2.out, rfl⟩) a b c d)
      have m0 : (w1.alloc (.cells #[.int .i64 ra.kind, .slice T1 ra.labels.length U1, .slice T2 ra.args.length U2] 27)).cell? ⟨w1.heap.size, 0, none⟩ = some (.int .i64 ra.kind) := nn.cell 0
      have m1 : (w1.alloc (.cells #[.int .i64 ra.kind, .slice T1 ra.labels.length U1, .slice T2 ra.args.length U2] 27)).cell? ⟨w1.heap.size, 1, none⟩ = some (.slice T1 ra.labels.length U1) := nn.cell 1
      have m2 : (w1.alloc (.cells #[.int .i64 ra.kind, .slice T1 ra.labels.length U1, .slice T2 ra.args.length U2] 27)).cell? ⟨w1.heap.size, 2, none⟩ = some (.slice T2 ra.args.length U2) := nn.cell 2
      have d0 : (w1.alloc (.cells #[.int .i64 ra.kind, .slice T1 ra.labels.length U1, .slice T2 ra.args.length U2] 27)).cell? ⟨w.heap.size + 1, 0, none⟩ = some (.int .i64 0) := zz.cell 0
      have df0 : (w1.alloc (.cells #[.int .i64 ra.kind, .slice T1 ra.labels.length U1, .slice T2 ra.args.length U2] 27)).frozen? ⟨w.heap.size + 1, 0, none⟩ = false := zz.free 0
      have d1 : (w1.alloc (.cells #[.int .i64 ra.kind, .slice T1 ra.labels.length U1, .slice T2 ra.args.length U2] 27)).cell? ⟨w.heap.size + 1, 1, none⟩ = some (.slice none 0 0) := zz.cell 1
      have df1 : (w1.alloc (.cells #[.int .i64 ra.kind, .slice T1 ra.labels.length U1, .slice T2 ra.args.length U2] 27)).frozen? ⟨w.heap.size + 1, 1, none⟩ = false := zz.free 1
      have d2 : (w1.alloc (.cells #[.int .i64 ra.kind, .slice T1 ra.labels.length U1, .slice T2 ra.args.length U2] 27)).cell? ⟨w.heap.size + 1, 2, none⟩ = some (.slice none 0 0) := zz.cell 2
      have df2 : (w1.alloc (.cells #[.int .i64 ra.kind, .slice T1 ra.labels.length U1, .slice T2 ra.args.length U2] 27)).frozen? ⟨w.heap.size + 1, 2, none⟩ = false := zz.free 2
      have d3 : (w1.alloc (.cells #[.int .i64 ra.kind, .slice T1 ra.labels.length U1, .slice T2 ra.args.length U2] 27)).cell? ⟨w.heap.size + 1, 3, none⟩ = some (.int .i64 0) := zz.cell 3
      have df3 : (w1.alloc (.cells #[.int .i64 ra.kind, .slice T1 ra.labels.length U1, .slice T2 ra.args.length U2] 27)).frozen? ⟨w.heap.size + 1, 3, none⟩ = false := zz.free 3
      clear hv2b hps HZ nn zz HU HB hse
      go_wp2
      exact bodyPost_ret (v := .tuple #[.agg #[.int .i64 ra.kind, .slice T1 ra.labels.length U1, .slice T2 ra.args.length U2, .int .i64 kd], .nilIface]) (by simp [results, Tryz.results113, go_sem, d0, d1, d2, d3]) rfl (HF.out _ _ _ _)
  · have i1 : (t.kind != asked) = true := by simpa using h5
    have HRN := Lib.hid (HR.out.trans (if_neg h5))
    clear h5 HR
    cases rr with
    | none =>
      simp only [Option.isSome_none]
      clear hv2b hps HZ hpt nn hse
      have d0 : (w1.alloc (.cells #[.int .i64 pt.kind, .slice T1 pt.labels.length U1, .slice T2 pt.args.length U2] 27)).cell? ⟨w.heap.size + 1, 0, none⟩ = some (.int .i64 0) := zz.cell 0
      have df0 : (w1.alloc (.cells #[.int .i64 pt.kind, .slice T1 pt.labels.length U1, .slice T2 pt.args.length U2] 27)).frozen? ⟨w.heap.size + 1, 0, none⟩ = false := zz.free 0
      have d1 : (w1.alloc (.cells #[.int .i64 pt.kind, .slice T1 pt.labels.length U1, .slice T2 pt.args.length U2] 27)).cell? ⟨w.heap.size + 1, 1, none⟩ = some (.slice none 0 0) := zz.cell 1
      have df1 : (w1.alloc (.cells #[.int .i64 pt.kind, .slice T1 pt.labels.length U1, .slice T2 pt.args.length U2] 27)).frozen? ⟨w.heap.size + 1, 1, none⟩ = false := zz.free 1
      have d2 : (w1.alloc (.cells #[.int .i64 pt.kind, .slice T1 pt.labels.length U1, .slice T2 pt.args.length U2] 27)).cell? ⟨w.heap.size + 1, 2, none⟩ = some (.slice none 0 0) := zz.cell 2
      have df2 : (w1.alloc (.cells #[.int .i64 pt.kind, .slice T1 pt.labels.length U1, .slice T2 pt.args.length U2] 27)).frozen? ⟨w.heap.size + 1, 2, none⟩ = false := zz.free 2
      have d3 : (w1.alloc (.cells #[.int .i64 pt.kind, .slice T1 pt.labels.length U1, .slice T2 pt.args.length U2] 27)).cell? ⟨w.heap.size + 1, 3, none⟩ = some (.int .i64 0) := zz.cell 3
      have df3 : (w1.alloc (.cells #[.int .i64 pt.kind, .slice T1 pt.labels.length U1, .slice T2 pt.args.length U2] 27)).frozen? ⟨w.heap.size + 1, 3, none⟩ = false := zz.free 3
      have e0 : (w1.alloc (.cells #[.int .i64 pt.kind, .slice T1 pt.labels.length U1, .slice T2 pt.args.length U2] 27)).drew.cell? ⟨w.heap.size + 1, 0, none⟩ = some (.int .i64 0) := d0
      have ef0 : (w1.alloc (.cells #[.int .i64 pt.kind, .slice T1 pt.labels.length U1, .slice T2 pt.args.length U2] 27)).drew.frozen? ⟨w.heap.size + 1, 0, none⟩ = false := df0
      have e1 : (w1.alloc (.cells #[.int .i64 pt.kind, .slice T1 pt.labels.length U1, .slice T2 pt.args.length U2] 27)).drew.cell? ⟨w.heap.size + 1, 1, none⟩ = some (.slice none 0 0) := d1
      have ef1 : (w1.alloc (.cells #[.int .i64 pt.kind, .slice T1 pt.labels.length U1, .slice T2 pt.args.length U2] 27)).drew.frozen? ⟨w.heap.size + 1, 1, none⟩ = false := df1
      have e2 : (w1.alloc (.cells #[.int .i64 pt.kind, .slice T1 pt.labels.length U1, .slice T2 pt.args.length U2] 27)).drew.cell? ⟨w.heap.size + 1, 2, none⟩ = some (.slice none 0 0) := d2
      have ef2 : (w1.alloc (.cells #[.int .i64 pt.kind, .slice T1 pt.labels.length U1, .slice T2 pt.args.length U2] 27)).drew.frozen? ⟨w.heap.size + 1, 2, none⟩ = false := df2
      have e3 : (w1.alloc (.cells #[.int .i64 pt.kind, .slice T1 pt.labels.length U1, .slice T2 pt.args.length U2] 27)).drew.cell? ⟨w.heap.size + 1, 3, none⟩ = some (.int .i64 0) := d3
      have ef3 : (w1.alloc (.cells #[.int .i64 pt.kind, .slice T1 pt.labels.length U1, .slice T2 pt.args.length U2] 27)).drew.frozen? ⟨w.heap.size + 1, 3, none⟩ = false := df3
      obtain ⟨_, hu, ua, hua⟩ := HU.out
      subst hua
      have hud : (w1.alloc (.cells #[.int .i64 pt.kind, .slice T1 pt.labels.length U1, .slice T2 pt.args.length U2] 27)).drew.cell? ⟨0, 0, none⟩ = some (.iface 195 (.pointer (some ua))) := hu
      have HF := Lib.hid (typ_none (N := N) (u := (.iface 195 (.pointer (some ua)))) HB.out HRN.out)
      have HG := Lib.hid (fun a b c d => typ_drew (typ_none4 (N := N) (u := (.iface 195 (.pointer (some ua)))) (show w.heap.size ≤ w.heap.size + 1 by omega) HB.out HRN.out a b c d))
      clear zz HU HB HRN
      go_wp2
      go_region
      go_wp2
      first | exact bodyPost_ret (v := .tuple #[.agg #[.int .i64 0, .slice none 0 0, .slice none 0 0, .int .i64 0], .iface 195 (.pointer (some ua))]) (by simp [results, Tryz.results113, go_sem, d0, d1, d2, d3, e0, e1, e2, e3]) rfl HF.out | exact bodyPost_ret (v := .tuple #[.agg #[.int .i64 0, .slice none 0 0, .slice none 0 0, .int .i64 0], .iface 195 (.pointer (some ua))]) (by simp [results, Tryz.results113, go_sem, d0, d1, d2, d3, e0, e1, e2, e3]) rfl (HG.out _ _ _ _)
    | some ra =>
      simp only [Option.isSome_some]
      clear hv2b hps HZ hpt nn hse
      have d0 : (w1.alloc (.cells #[.int .i64 pt.kind, .slice T1 pt.labels.length U1, .slice T2 pt.args.length U2] 27)).cell? ⟨w.heap.size + 1, 0, none⟩ = some (.int .i64 0) := zz.cell 0
      have df0 : (w1.alloc (.cells #[.int .i64 pt.kind, .slice T1 pt.labels.length U1, .slice T2 pt.args.length U2] 27)).frozen? ⟨w.heap.size + 1, 0, none⟩ = false := zz.free 0
      have d1 : (w1.alloc (.cells #[.int .i64 pt.kind, .slice T1 pt.labels.length U1, .slice T2 pt.args.length U2] 27)).cell? ⟨w.heap.size + 1, 1, none⟩ = some (.slice none 0 0) := zz.cell 1
      have df1 : (w1.alloc (.cells #[.int .i64 pt.kind, .slice T1 pt.labels.length U1, .slice T2 pt.args.length U2] 27)).frozen? ⟨w.heap.size + 1, 1, none⟩ = false := zz.free 1
      have d2 : (w1.alloc (.cells #[.int .i64 pt.kind, .slice T1 pt.labels.length U1, .slice T2 pt.args.length U2] 27)).cell? ⟨w.heap.size + 1, 2, none⟩ = some (.slice none 0 0) := zz.cell 2
      have df2 : (w1.alloc (.cells #[.int .i64 pt.kind, .slice T1 pt.labels.length U1, .slice T2 pt.args.length U2] 27)).frozen? ⟨w.heap.size + 1, 2, none⟩ = false := zz.free 2
      have d3 : (w1.alloc (.cells #[.int .i64 pt.kind, .slice T1 pt.labels.length U1, .slice T2 pt.args.length U2] 27)).cell? ⟨w.heap.size + 1, 3, none⟩ = some (.int .i64 0) := zz.cell 3
      have df3 : (w1.alloc (.cells #[.int .i64 pt.kind, .slice T1 pt.labels.length U1, .slice T2 pt.args.length U2] 27)).frozen? ⟨w.heap.size + 1, 3, none⟩ = false := zz.free 3
      have e0 : (w1.alloc (.cells #[.int .i64 pt.kind, .slice T1 pt.labels.length U1, .slice T2 pt.args.length U2] 27)).drew.cell? ⟨w.heap.size + 1, 0, none⟩ = some (.int .i64 0) := d0
      have ef0 : (w1.alloc (.cells #[.int .i64 pt.kind, .slice T1 pt.labels.length U1, .slice T2 pt.args.length U2] 27)).drew.frozen? ⟨w.heap.size + 1, 0, none⟩ = false := df0
      have e1 : (w1.alloc (.cells #[.int .i64 pt.kind, .slice T1 pt.labels.length U1, .slice T2 pt.args.length U2] 27)).drew.cell? ⟨w.heap.size + 1, 1, none⟩ = some (.slice none 0 0) := d1
      have ef1 : (w1.alloc (.cells #[.int .i64 pt.kind, .slice T1 pt.labels.length U1, .slice T2 pt.args.length U2] 27)).drew.frozen? ⟨w.heap.size + 1, 1, none⟩ = false := df1
      have e2 : (w1.alloc (.cells #[.int .i64 pt.kind, .slice T1 pt.labels.length U1, .slice T2 pt.args.length U2] 27)).drew.cell? ⟨w.heap.size + 1, 2, none⟩ = some (.slice none 0 0) := d2
      have ef2 : (w1.alloc (.cells #[.int .i64 pt.kind, .slice T1 pt.labels.length U1, .slice T2 pt.args.length U2] 27)).drew.frozen? ⟨w.heap.size + 1, 2, none⟩ = false := df2
      have e3 : (w1.alloc (.cells #[.int .i64 pt.kind, .slice T1 pt.labels.length U1, .slice T2 pt.args.length U2] 27)).drew.cell? ⟨w.heap.size + 1, 3, none⟩ = some (.int .i64 0) := d3
      have ef3 : (w1.alloc (.cells #[.int .i64 pt.kind, .slice T1 pt.labels.length U1, .slice T2 pt.args.length U2] 27)).drew.frozen? ⟨w.heap.size + 1, 3, none⟩ = false := df3
      obtain ⟨_, hu, ua, hua⟩ := HU.out
      subst hua
      have hud : (w1.alloc (.cells #[.int .i64 pt.kind, .slice T1 pt.labels.length U1, .slice T2 pt.args.length U2] 27)).drew.cell? ⟨0, 0, none⟩ = some (.iface 195 (.pointer (some ua))) := hu
      have HF := Lib.hid (typ_none (N := N) (u := (.iface 195 (.pointer (some ua)))) HB.out HRN.out)
      have HG := Lib.hid (fun a b c d => typ_drew (typ_none4 (N := N) (u := (.iface 195 (.pointer (some ua)))) (show w.heap.size ≤ w.heap.size + 1 by omega) HB.out HRN.out a b c d))
      clear zz HU HB HRN
      go_wp2
      go_region
      go_wp2
      first | exact bodyPost_ret (v := .tuple #[.agg #[.int .i64 0, .slice none 0 0, .slice none 0 0, .int .i64 0], .iface 195 (.pointer (some ua))]) (by simp [results, Tryz.results113, go_sem, d0, d1, d2, d3, e0, e1, e2, e3]) rfl HF.out | exact bodyPost_ret (v := .tuple #[.agg #[.int .i64 0, .slice none 0 0, .slice none 0 0, .int .i64 0], .iface 195 (.pointer (some ua))]) (by simp [results, Tryz.results113, go_sem, d0, d1, d2, d3, e0, e1, e2, e3]) rfl (HG.out _ _ _ _)

end Go.Proofs.YthdfidhijmcbdaaGreatDoor
end

section
namespace Go.Proofs.YthdfidhijmcbdaaGreatDoor
set_option maxRecDepth 100000
set_option linter.unusedSimpArgs false
open Go.RowKit
attribute [local go_sem ↓] Go.wp_at_zero Go.wp_at_succ

/-- What is proved of each optic. -/
def TypOne (o : Ot) : Prop := ∀ (N : Nat → Prop) (u : Value) (r : Option (Ty × Int)) (s : Ty) (sv ov : Value) (w : World), (∀ b, N b → b < w.heap.size) → UnfitAt w u → JoinsAt w → OwnA N w sv s → OtAt w w.heap.size ov o → validB s = true → formOt o = true → szOt o ≤ 1048576 → r = typeO o s →
  Calls Tryz.prog 68 #[sv, ov] w (TypPost N u r w)

set_option maxHeartbeats 4000000 in
theorem typThen_any (o1 o2 : Ot) (h1 : TypOne o1) (h2 : TypOne o2) {N : Nat → Prop} {u : Value} {r : Option (Ty × Int)} (s : Ty) (sv v1 v2 : Value) (w : World) (hN : ∀ b, N b → b < w.heap.size) (hU : UnfitAt w u) (hJ : JoinsAt w) (hv : OwnA N w sv s) (ho1 : OtAt w w.heap.size v1 o1) (ho2 : OtAt w w.heap.size v2 o2)
    (hval : validB s = true) (f1 : formOt o1 = true) (f2 : formOt o2 = true) (z1 : szOt o1 ≤ 1048576) (z2 : szOt o2 ≤ 1048576) (hr : r = thenO (typeO o1) (typeO o2) s) :
    Calls Tryz.prog 118 #[sv, v1, v2] w (TypPost N u r w) := by
  obtain ⟨L, lc, A, ac, rfl⟩ := hv.open
  obtain ⟨B1, bc1, rfl, _⟩ := ho1.open
  obtain ⟨B2, bc2, rfl, _⟩ := ho2.open
  obtain ⟨hb0, p0, q0, q0', zz0⟩ := boxes4 w 27 30 30 60 #[.int .i64 s.kind, .slice L s.labels.length lc, .slice A s.args.length ac] #[.int .i64 o1.kind, .string o1.name, .int .i64 o1.num, .slice B1 o1.args.length bc1] #[.int .i64 o2.kind, .string o2.name, .int .i64 o2.num, .slice B2 o2.args.length bc2] #[.int .i64 0, .slice none 0 0, .slice none 0 0, .int .i64 0]
  have hv0 := (hv.late (w.heap.size + 1 + 1 + 1) (by omega)).up hb0
  have ho1' := ho1.up hb0
  have ho2' := ho2.up hb0
  have hN0 : ∀ b, (N b ∨ b = w.heap.size + 1 + 1 + 1) → b < ((((w.alloc (.cells #[.int .i64 s.kind, .slice L s.labels.length lc, .slice A s.args.length ac] 27)).alloc (.cells #[.int .i64 o1.kind, .string o1.name, .int .i64 o1.num, .slice B1 o1.args.length bc1] 30)).alloc (.cells #[.int .i64 o2.kind, .string o2.name, .int .i64 o2.num, .slice B2 o2.args.length bc2] 30)).alloc (.cells #[.int .i64 0, .slice none 0 0, .slice none 0 0, .int .i64 0] 60)).heap.size := fun b hb => hb.elim (fun hb => Nat.lt_of_lt_of_le (hN b hb) hb0.size) (fun e => e ▸ zz0.lt)
  have HU0 := Lib.hid (hU.below hb0)
  have HJ0 := Lib.hid (hJ.below hb0)
  obtain ⟨hug, huc, ua, rfl⟩ := hU
  obtain ⟨r1, hr1⟩ : ∃ x, x = typeO o1 s := ⟨_, rfl⟩
  have HC1 := Lib.hid (h1 (fun b => N b ∨ b = w.heap.size + 1 + 1 + 1) _ r1 s _ _ _ hN0 HU0.out HJ0.out hv0 ho1' hval f1 z1 hr1)
  have HR := Lib.hid hr
  have HR1 := Lib.hid hr1
  clear hv hN hr hr1 hJ hug huc ho1 ho2 ho1' f1 z1 hv0 hval h1
  go_enter Tryz.func118, Tryz.ntmps118
  go_wp2_with fail
  generalize (((w.alloc (.cells #[.int .i64 s.kind, .slice L s.labels.length lc, .slice A s.args.length ac] 27)).alloc (.cells #[.int .i64 o1.kind, .string o1.name, .int .i64 o1.num, .slice B1 o1.args.length bc1] 30)).alloc (.cells #[.int .i64 o2.kind, .string o2.name, .int .i64 o2.num, .slice B2 o2.args.length bc2] 30)).alloc (.cells #[.int .i64 0, .slice none 0 0, .slice none 0 0, .int .i64 0] 60) = w0 at *
  refine HC1.out.mono ?_
  rintro e w1 ⟨L1, lc1, A1, ac1, t1, k1, x1, rfl, hv1, hb1, hs1, hor⟩
  clear HC1
  have hx1 := (Below.refl w1.heap.size w1).alloc (Nat.le_refl _) (.cells #[.int .i64 t1.kind, .slice L1 t1.labels.length lc1, .slice A1 t1.args.length ac1, .int .i64 k1] 60)
  have hc1 := hb1
  have hd1 := hc1.trans (hx1.mono hc1.size)
  have hv1x := hv1.up hx1
  have n1 : Whole1 (w1.alloc (.cells #[.int .i64 t1.kind, .slice L1 t1.labels.length lc1, .slice A1 t1.args.length ac1, .int .i64 k1] 60)) w1.heap.size 60 #[.int .i64 t1.kind, .slice L1 t1.labels.length lc1, .slice A1 t1.args.length ac1, .int .i64 k1] := Whole1.new _ _ _
  have zzx1 := zz0.below hd1 zz0.lt
  have HB1 := Lib.hid (hb0.trans (hd1.mono hb0.size))
  have HUU1 := Lib.hid (HU0.out.below hd1)
  have HJJ1 := Lib.hid (HJ0.out.below hd1)
  go_upto_region 2 with fail
  generalize (w1.alloc (.cells #[.int .i64 t1.kind, .slice L1 t1.labels.length lc1, .slice A1 t1.args.length ac1, .int .i64 k1] 60)) = W1 at *
  rcases hor with ⟨rn, rfl⟩ | ⟨rs, rfl⟩
  · have HRN := Lib.hid (HR.out.trans (thenO_none (HR1.out.symm.trans rn)))
    have HF := Lib.hid (typ_none0 (N := N) (u := (.iface 195 (.pointer (some ua)))) HB1.out HRN.out)
    have HG := Lib.hid (fun a b c d => (typ_none4 (N := N) (u := (.iface 195 (.pointer (some ua)))) (show w.heap.size ≤ w.heap.size + 1 + 1 + 1 by omega) HB1.out HRN.out a b c d))
    have d0 : W1.cell? ⟨w.heap.size + 1 + 1 + 1, 0, none⟩ = some (.int .i64 0) := zzx1.cell 0
    have df0 : W1.frozen? ⟨w.heap.size + 1 + 1 + 1, 0, none⟩ = false := zzx1.free 0
    have d1 : W1.cell? ⟨w.heap.size + 1 + 1 + 1, 1, none⟩ = some (.slice none 0 0) := zzx1.cell 1
    have df1 : W1.frozen? ⟨w.heap.size + 1 + 1 + 1, 1, none⟩ = false := zzx1.free 1
    have d2 : W1.cell? ⟨w.heap.size + 1 + 1 + 1, 2, none⟩ = some (.slice none 0 0) := zzx1.cell 2
    have df2 : W1.frozen? ⟨w.heap.size + 1 + 1 + 1, 2, none⟩ = false := zzx1.free 2
    have d3 : W1.cell? ⟨w.heap.size + 1 + 1 + 1, 3, none⟩ = some (.int .i64 0) := zzx1.cell 3
    have df3 : W1.frozen? ⟨w.heap.size + 1 + 1 + 1, 3, none⟩ = false := zzx1.free 3
    clear hb1 hb0 hx1 hc1 hd1 hv1 hv1x n1 zzx1 zz0 p0 q0 q0' hs1 rn HB1 HUU1 HJJ1 HRN hN0 ho2' h2 f2 z2 HU0 HJ0 HR HR1
    go_wp2
    first | exact bodyPost_ret (v := .tuple #[.agg #[.int .i64 0, .slice none 0 0, .slice none 0 0, .int .i64 0], .iface 195 (.pointer (some ua))]) (by simp [results, Tryz.results118, go_sem, d0, d1, d2, d3]) rfl HF.out | exact bodyPost_ret (v := .tuple #[.agg #[.int .i64 0, .slice none 0 0, .slice none 0 0, .int .i64 0], .iface 195 (.pointer (some ua))]) (by simp [results, Tryz.results118, go_sem, d0, d1, d2, d3]) rfl (HG.out _ _ _ _)
  · have hval1 := typeO_valid (HR1.out.symm.trans rs)
    obtain ⟨r2, hr2⟩ : ∃ x, x = typeO o2 t1 := ⟨_, rfl⟩
    have HRS := Lib.hid (HR1.out.symm.trans rs)
    have HR2 := Lib.hid hr2
    have HN1 := Lib.hid (show ∀ b, (N b ∨ b = w.heap.size + 1 + 1 + 1) → b < W1.heap.size from fun b hb => Nat.lt_of_lt_of_le (hN0 b hb) hd1.size)
    have HC2 := Lib.hid (h2 (fun b => N b ∨ b = w.heap.size + 1 + 1 + 1) _ r2 t1 _ _ W1 HN1.out HUU1.out HJJ1.out hv1x (ho2'.up hd1) hval1 f2 z2 hr2)
    have qq := q0'.below hd1 q0'.lt
    have HN := Lib.hid n1
    have HD1 := Lib.hid hd1
    have HS1 := Lib.hid hs1
    have m0 : W1.cell? ⟨w1.heap.size, 0, none⟩ = some (.int .i64 t1.kind) := n1.cell 0
    have m1 : W1.cell? ⟨w1.heap.size, 1, none⟩ = some (.slice L1 t1.labels.length lc1) := n1.cell 1
    have m2 : W1.cell? ⟨w1.heap.size, 2, none⟩ = some (.slice A1 t1.args.length ac1) := n1.cell 2
    have m3 : W1.cell? ⟨w1.heap.size, 3, none⟩ = some (.int .i64 k1) := n1.cell 3
    have qo0 : W1.cell? ⟨w.heap.size + 1 + 1, 0, none⟩ = some (.int .i64 o2.kind) := qq.cell 0
    have qo1 : W1.cell? ⟨w.heap.size + 1 + 1, 1, none⟩ = some (.string o2.name) := qq.cell 1
    have qo2 : W1.cell? ⟨w.heap.size + 1 + 1, 2, none⟩ = some (.int .i64 o2.num) := qq.cell 2
    have qo3 : W1.cell? ⟨w.heap.size + 1 + 1, 3, none⟩ = some (.slice B2 o2.args.length bc2) := qq.cell 3
    clear hval1 hr2 hb1 hx1 hd1 hv1 hv1x n1 zzx1 p0 q0 q0' hs1 rs HB1 HUU1 HJJ1 HN1 hN0 ho2' h2 f2 z2 qq
    go_wp2_with fail
    refine HC2.out.mono ?_
    rintro e w2 ⟨L2, lc2, A2, ac2, t2, k2, x2, rfl, hv2, hb2, hs2, hor2⟩
    clear m0 m1 m2 m3 qo0 qo1 qo2 qo3 HC2
    have hx2 := (Below.refl w2.heap.size w2).alloc (Nat.le_refl _) (.cells #[.int .i64 t2.kind, .slice L2 t2.labels.length lc2, .slice A2 t2.args.length ac2, .int .i64 k2] 60)
    have hc2 := HD1.out.trans (hb2.mono HD1.out.size)
    have hd2 := hc2.trans (hx2.mono hc2.size)
    have hv2x := hv2.up hx2
    have n2 : Whole1 (w2.alloc (.cells #[.int .i64 t2.kind, .slice L2 t2.labels.length lc2, .slice A2 t2.args.length ac2, .int .i64 k2] 60)) w2.heap.size 60 #[.int .i64 t2.kind, .slice L2 t2.labels.length lc2, .slice A2 t2.args.length ac2, .int .i64 k2] := Whole1.new _ _ _
    have zzx2 := zz0.below hd2 zz0.lt
    have hnn1 := (HN.out.below hb2 HN.out.lt).below hx2 (HN.out.below hb2 HN.out.lt).lt
    have HB2 := Lib.hid (hb0.trans (hd2.mono hb0.size))
    have HUU2 := Lib.hid (HU0.out.below hd2)
    have HJJ2 := Lib.hid (HJ0.out.below hd2)
    go_upto_region 5 with fail
    generalize (w2.alloc (.cells #[.int .i64 t2.kind, .slice L2 t2.labels.length lc2, .slice A2 t2.args.length ac2, .int .i64 k2] 60)) = W2 at *
    rcases hor2 with ⟨rn, rfl⟩ | ⟨rs2, rfl⟩
    · have HRN := Lib.hid (HR.out.trans (show thenO (typeO o1) (typeO o2) s = none by simp only [thenO, HRS.out, HR2.out.symm.trans rn]))
      have HF := Lib.hid (typ_none0 (N := N) (u := (.iface 195 (.pointer (some ua)))) HB2.out HRN.out)
      have HG := Lib.hid (fun a b c d => (typ_none4 (N := N) (u := (.iface 195 (.pointer (some ua)))) (show w.heap.size ≤ w.heap.size + 1 + 1 + 1 by omega) HB2.out HRN.out a b c d))
      have d0 : W2.cell? ⟨w.heap.size + 1 + 1 + 1, 0, none⟩ = some (.int .i64 0) := zzx2.cell 0
      have df0 : W2.frozen? ⟨w.heap.size + 1 + 1 + 1, 0, none⟩ = false := zzx2.free 0
      have d1 : W2.cell? ⟨w.heap.size + 1 + 1 + 1, 1, none⟩ = some (.slice none 0 0) := zzx2.cell 1
      have df1 : W2.frozen? ⟨w.heap.size + 1 + 1 + 1, 1, none⟩ = false := zzx2.free 1
      have d2 : W2.cell? ⟨w.heap.size + 1 + 1 + 1, 2, none⟩ = some (.slice none 0 0) := zzx2.cell 2
      have df2 : W2.frozen? ⟨w.heap.size + 1 + 1 + 1, 2, none⟩ = false := zzx2.free 2
      have d3 : W2.cell? ⟨w.heap.size + 1 + 1 + 1, 3, none⟩ = some (.int .i64 0) := zzx2.cell 3
      have df3 : W2.frozen? ⟨w.heap.size + 1 + 1 + 1, 3, none⟩ = false := zzx2.free 3
      clear hb2 hx2 hc2 hd2 hv2 hv2x n2 zzx2 zz0 rn HB2 HUU2 HJJ2 HRN HU0 HJ0 HR HR1 hnn1 HN HD1 HS1 HRS HR2 hs2
      go_wp2
      first | exact bodyPost_ret (v := .tuple #[.agg #[.int .i64 0, .slice none 0 0, .slice none 0 0, .int .i64 0], .iface 195 (.pointer (some ua))]) (by simp [results, Tryz.results118, go_sem, d0, d1, d2, d3]) rfl HF.out | exact bodyPost_ret (v := .tuple #[.agg #[.int .i64 0, .slice none 0 0, .slice none 0 0, .int .i64 0], .iface 195 (.pointer (some ua))]) (by simp [results, Tryz.results118, go_sem, d0, d1, d2, d3]) rfl (HG.out _ _ _ _)
    · have HRY := Lib.hid (HR.out.trans (show thenO (typeO o1) (typeO o2) s = some (t2, joinI k1 k2) by simp only [thenO, HRS.out, HR2.out.symm.trans rs2]))
      have HN2 := Lib.hid n2
      have HN1 := Lib.hid hnn1
      have HV2 := Lib.hid hv2x
      have HZ := Lib.hid zzx2
      have hl1 := hnn1.lt
      have hl2 := n2.lt
      have hn1 : w.heap.size + 1 + 1 + 1 ≠ w1.heap.size := by have := zz0.lt; have := hc1.size; omega
      have hn2 : w.heap.size + 1 + 1 + 1 ≠ w2.heap.size := by have := zz0.lt; have := hc2.size; omega
      have HSS := Lib.hid hs2
      clear hb2 hx2 hc2 hd2 hv2 hv2x n2 zzx2 zz0 rs2 HU0 HJ0 HR HR1 hnn1 HN HD1 HS1 HRS HR2 hs2 HUU2 hc1
      go_upto_region 7 with fail
      have fa0 : W2.drew.cell? ⟨w2.heap.size, 0, none⟩ = some (.int .i64 t2.kind) := (HN2.out.cell 0)
      have fa1 : W2.drew.cell? ⟨w2.heap.size, 1, none⟩ = some (.slice L2 t2.labels.length lc2) := (HN2.out.cell 1)
      have fa2 : W2.drew.cell? ⟨w2.heap.size, 2, none⟩ = some (.slice A2 t2.args.length ac2) := (HN2.out.cell 2)
      have fa3 : W2.drew.cell? ⟨w2.heap.size, 3, none⟩ = some (.int .i64 k2) := (HN2.out.cell 3)
      have fa4 : W2.drew.cell? ⟨w1.heap.size, 3, none⟩ = some (.int .i64 k1) := (HN1.out.cell 3)
      go_region_held3 (fun x' : World => x'.cell? ⟨w2.heap.size, 0, none⟩ = some (.int .i64 t2.kind) ∧ x'.cell? ⟨w2.heap.size, 1, none⟩ = some (.slice L2 t2.labels.length lc2) ∧ x'.cell? ⟨w2.heap.size, 2, none⟩ = some (.slice A2 t2.args.length ac2) ∧ x'.cell? ⟨w2.heap.size, 3, none⟩ = some (.int .i64 k2) ∧ x'.cell? ⟨w1.heap.size, 3, none⟩ = some (.int .i64 k1)) (first | with_reducible exact ⟨fa0, fa1, fa2, fa3, fa4⟩ | with_reducible exact ⟨fk0, fk1, fk2, fk3, fk4⟩ | with_reducible exact ⟨fl0, fl1, fl2, fl3, fl4⟩ | go_keep) (first | (go_simp; go_at_call 131; (with_reducible refine (implJoinK_any k1 k2 _ (HJJ2.out.below (Below.refl _ _).drew)).mono ?_); rintro e w9 ⟨rfl, hb9'⟩; have hb9 := (Below.refl W2.heap.size W2).drew.trans hb9'; have fk0 : w9.cell? ⟨w2.heap.size, 0, none⟩ = some (.int .i64 t2.kind) := (hb9.cell (p := ⟨w2.heap.size, 0, none⟩) hl2).trans (HN2.out.cell 0); have fl0 : ((((w9.setCell ⟨w.heap.size + 1 + 1 + 1, 0, none⟩ (.int .i64 t2.kind)).setCell ⟨w.heap.size + 1 + 1 + 1, 1, none⟩ (.slice L2 t2.labels.length lc2)).setCell ⟨w.heap.size + 1 + 1 + 1, 2, none⟩ (.slice A2 t2.args.length ac2)).setCell ⟨w.heap.size + 1 + 1 + 1, 3, none⟩ (.int .i64 (joinI k1 k2))).cell? ⟨w2.heap.size, 0, none⟩ = some (.int .i64 t2.kind) := typ_far _ _ _ _ _ fk0 (hn2); have fk1 : w9.cell? ⟨w2.heap.size, 1, none⟩ = some (.slice L2 t2.labels.length lc2) := (hb9.cell (p := ⟨w2.heap.size, 1, none⟩) hl2).trans (HN2.out.cell 1); have fl1 : ((((w9.setCell ⟨w.heap.size + 1 + 1 + 1, 0, none⟩ (.int .i64 t2.kind)).setCell ⟨w.heap.size + 1 + 1 + 1, 1, none⟩ (.slice L2 t2.labels.length lc2)).setCell ⟨w.heap.size + 1 + 1 + 1, 2, none⟩ (.slice A2 t2.args.length ac2)).setCell ⟨w.heap.size + 1 + 1 + 1, 3, none⟩ (.int .i64 (joinI k1 k2))).cell? ⟨w2.heap.size, 1, none⟩ = some (.slice L2 t2.labels.length lc2) := typ_far _ _ _ _ _ fk1 (hn2); have fk2 : w9.cell? ⟨w2.heap.size, 2, none⟩ = some (.slice A2 t2.args.length ac2) := (hb9.cell (p := ⟨w2.heap.size, 2, none⟩) hl2).trans (HN2.out.cell 2); have fl2 : ((((w9.setCell ⟨w.heap.size + 1 + 1 + 1, 0, none⟩ (.int .i64 t2.kind)).setCell ⟨w.heap.size + 1 + 1 + 1, 1, none⟩ (.slice L2 t2.labels.length lc2)).setCell ⟨w.heap.size + 1 + 1 + 1, 2, none⟩ (.slice A2 t2.args.length ac2)).setCell ⟨w.heap.size + 1 + 1 + 1, 3, none⟩ (.int .i64 (joinI k1 k2))).cell? ⟨w2.heap.size, 2, none⟩ = some (.slice A2 t2.args.length ac2) := typ_far _ _ _ _ _ fk2 (hn2); have fk3 : w9.cell? ⟨w2.heap.size, 3, none⟩ = some (.int .i64 k2) := (hb9.cell (p := ⟨w2.heap.size, 3, none⟩) hl2).trans (HN2.out.cell 3); have fl3 : ((((w9.setCell ⟨w.heap.size + 1 + 1 + 1, 0, none⟩ (.int .i64 t2.kind)).setCell ⟨w.heap.size + 1 + 1 + 1, 1, none⟩ (.slice L2 t2.labels.length lc2)).setCell ⟨w.heap.size + 1 + 1 + 1, 2, none⟩ (.slice A2 t2.args.length ac2)).setCell ⟨w.heap.size + 1 + 1 + 1, 3, none⟩ (.int .i64 (joinI k1 k2))).cell? ⟨w2.heap.size, 3, none⟩ = some (.int .i64 k2) := typ_far _ _ _ _ _ fk3 (hn2); have fk4 : w9.cell? ⟨w1.heap.size, 3, none⟩ = some (.int .i64 k1) := (hb9.cell (p := ⟨w1.heap.size, 3, none⟩) hl1).trans (HN1.out.cell 3); have fl4 : ((((w9.setCell ⟨w.heap.size + 1 + 1 + 1, 0, none⟩ (.int .i64 t2.kind)).setCell ⟨w.heap.size + 1 + 1 + 1, 1, none⟩ (.slice L2 t2.labels.length lc2)).setCell ⟨w.heap.size + 1 + 1 + 1, 2, none⟩ (.slice A2 t2.args.length ac2)).setCell ⟨w.heap.size + 1 + 1 + 1, 3, none⟩ (.int .i64 (joinI k1 k2))).cell? ⟨w1.heap.size, 3, none⟩ = some (.int .i64 k1) := typ_far _ _ _ _ _ fk4 (hn1); have z9 := HZ.out.below hb9 HZ.out.lt; have d0 : w9.cell? ⟨w.heap.size + 1 + 1 + 1, 0, none⟩ = some (.int .i64 0) := z9.cell 0; have df0 : w9.frozen? ⟨w.heap.size + 1 + 1 + 1, 0, none⟩ = false := z9.free 0; have d1 : w9.cell? ⟨w.heap.size + 1 + 1 + 1, 1, none⟩ = some (.slice none 0 0) := z9.cell 1; have df1 : w9.frozen? ⟨w.heap.size + 1 + 1 + 1, 1, none⟩ = false := z9.free 1; have d2 : w9.cell? ⟨w.heap.size + 1 + 1 + 1, 2, none⟩ = some (.slice none 0 0) := z9.cell 2; have df2 : w9.frozen? ⟨w.heap.size + 1 + 1 + 1, 2, none⟩ = false := z9.free 2; have d3 : w9.cell? ⟨w.heap.size + 1 + 1 + 1, 3, none⟩ = some (.int .i64 0) := z9.cell 3; have df3 : w9.frozen? ⟨w.heap.size + 1 + 1 + 1, 3, none⟩ = false := z9.free 3; have HF := Lib.hid (fun a b c d => typ_fin (r := r) (u := (.iface 195 (.pointer (some ua)))) (show w.heap.size ≤ w.heap.size + 1 + 1 + 1 by omega) (HB2.out.trans (hb9.mono HB2.out.size)) (HV2.out.up hb9) HSS.out (.inr ⟨HRY.out, rfl⟩) a b c d); clear hb9' hb9 z9))
      all_goals go_wp2
      all_goals exact bodyPost_ret (v := .tuple #[.agg #[.int .i64 t2.kind, .slice L2 t2.labels.length lc2, .slice A2 t2.args.length ac2, .int .i64 (joinI k1 k2)], .nilIface]) (by simp [results, Tryz.results118, go_sem, d0, d1, d2, d3]) rfl (HF.out _ _ _ _)


end Go.Proofs.YthdfidhijmcbdaaGreatDoor
end

section
namespace Go.Proofs.YthdfidhijmcbdaaGreatDoor
set_option maxRecDepth 100000
set_option linter.unusedSimpArgs false
open Go.RowKit
attribute [local go_sem ↓] Go.wp_at_zero Go.wp_at_succ

/-- What a call of typingOf leaves in a new box. -/
structure GotT (N : Nat → Prop) (u : Value) (r : Option (Ty × Int)) (b wx : World) (z : Nat) (L : Option Addr) (lc : Nat) (A : Option Addr) (ac : Nat) (t : Ty) (kd : Int) (x : Value) : Prop where
  box : Whole1 wx z 60 #[.int .i64 t.kind, .slice L t.labels.length lc, .slice A t.args.length ac, .int .i64 kd]
  tree : OwnA N wx (.agg #[.int .i64 t.kind, .slice L t.labels.length lc, .slice A t.args.length ac]) t
  below : Below b.heap.size b wx
  small : szTy t ≤ 2000
  err : (r = none ∧ x = u) ∨ (r = some (t, kd) ∧ x = .nilIface)
theorem GotT.late {N : Nat → Prop} {u : Value} {r : Option (Ty × Int)} {b w1 : World} {lc ac : Nat} {L A : Option Addr} {t : Ty} {kd : Int} {x : Value} (hv : OwnA N w1 (.agg #[.int .i64 t.kind, .slice L t.labels.length lc, .slice A t.args.length ac]) t) (hb : Below b.heap.size b w1) (hs : szTy t ≤ 2000) (he : (r = none ∧ x = u) ∨ (r = some (t, kd) ∧ x = .nilIface)) :
    GotT N u r b (w1.alloc (.cells #[.int .i64 t.kind, .slice L t.labels.length lc, .slice A t.args.length ac, .int .i64 kd] 60)) w1.heap.size L lc A ac t kd x := by
  have ha := (Below.refl w1.heap.size w1).alloc (Nat.le_refl _) (.cells #[.int .i64 t.kind, .slice L t.labels.length lc, .slice A t.args.length ac, .int .i64 kd] 60)
  exact ⟨Whole1.new _ _ _, hv.up ha, hb.trans (ha.mono hb.size), hs, he⟩
theorem GotT.early {N : Nat → Prop} {u : Value} {r : Option (Ty × Int)} {b w1 : World} {g lc ac : Nat} {L A : Option Addr} {t : Ty} {kd : Int} {x : Value} (hv : OwnA (fun q => N q ∨ q = g) w1 (.agg #[.int .i64 t.kind, .slice L t.labels.length lc, .slice A t.args.length ac]) t) (hz : Whole1 w1 g 60 #[.int .i64 0, .slice none 0 0, .slice none 0 0, .int .i64 0]) (hg : b.heap.size ≤ g) (hb : Below b.heap.size b w1) (hs : szTy t ≤ 2000) (he : (r = none ∧ x = u) ∨ (r = some (t, kd) ∧ x = .nilIface)) :
    GotT N u r b ((((w1.setCell ⟨g, 0, none⟩ (.int .i64 t.kind)).setCell ⟨g, 1, none⟩ (.slice L t.labels.length lc)).setCell ⟨g, 2, none⟩ (.slice A t.args.length ac)).setCell ⟨g, 3, none⟩ (.int .i64 kd)) g L lc A ac t kd x :=
  ⟨(((hz.set 0 (.int .i64 t.kind)).set 1 (.slice L t.labels.length lc)).set 2 (.slice A t.args.length ac)).set 3 (.int .i64 kd), hv.set _ _ _ _, set4_below hg hb _ _ _ _, hs, he⟩

theorem mapO_no1 {f : Ty → Option (Ty × Int)} {sl : List ByteArray} {te : Ty} (h : f te = none) : mapO f (.mk 5 sl [te]) = none := by
  have h5 : (Ty.mk 5 sl [te]).kind = 5 := rfl
  simp only [mapO, h5, if_true, Ty.args, List.getElem?_cons_zero, h]
theorem mapO_no2 {f : Ty → Option (Ty × Int)} {sl : List ByteArray} {te t : Ty} {kd : Int} (h : f te = some (t, kd)) (hk : kd ≠ 1) : mapO f (.mk 5 sl [te]) = none := by
  have h5 : (Ty.mk 5 sl [te]).kind = 5 := rfl
  simp only [mapO, h5, if_true, Ty.args, List.getElem?_cons_zero, h, if_neg hk]
theorem mapO_yes {f : Ty → Option (Ty × Int)} {sl : List ByteArray} {te t : Ty} (h : f te = some (t, 1)) : mapO f (.mk 5 sl [te]) = some (.mk 5 [] [t], 1) := by
  have h5 : (Ty.mk 5 sl [te]).kind = 5 := rfl
  simp only [mapO, h5, if_true, Ty.args, List.getElem?_cons_zero, h]

set_option maxHeartbeats 4000000 in
theorem typMap_any (o : Ot) (h1 : TypOne o) {N : Nat → Prop} {u : Value} {r : Option (Ty × Int)} (s : Ty) (sv ov : Value) (w : World) (hN : ∀ b, N b → b < w.heap.size) (hU : UnfitAt w u) (hJ : JoinsAt w) (hv : OwnA N w sv s) (ho : OtAt w w.heap.size ov o) (hval : validB s = true) (hf : formOt o = true) (hz : szOt o ≤ 1048576) (hr : r = mapO (typeO o) s) :
    Calls Tryz.prog 117 #[sv, ov] w (TypPost N u r w) := by
  obtain ⟨L, lc, A, ac, rfl⟩ := hv.open
  obtain ⟨B, bc, rfl, _⟩ := ho.open
  obtain ⟨hb0, p0, q0, zz0, hs0⟩ := boxes3 w 27 30 60 #[.int .i64 s.kind, .slice L s.labels.length lc, .slice A s.args.length ac] #[.int .i64 o.kind, .string o.name, .int .i64 o.num, .slice B o.args.length bc] #[.int .i64 0, .slice none 0 0, .slice none 0 0, .int .i64 0]
  have hv0 := (hv.late (w.heap.size + 1 + 1) (by omega)).up hb0
  have ho0 := ho.up hb0
  have hN0 : ∀ b, (N b ∨ b = w.heap.size + 1 + 1) → b < (((w.alloc (.cells #[.int .i64 s.kind, .slice L s.labels.length lc, .slice A s.args.length ac] 27)).alloc (.cells #[.int .i64 o.kind, .string o.name, .int .i64 o.num, .slice B o.args.length bc] 30)).alloc (.cells #[.int .i64 0, .slice none 0 0, .slice none 0 0, .int .i64 0] 60)).heap.size := fun b hb => hb.elim (fun hb => Nat.lt_of_lt_of_le (hN b hb) hb0.size) (fun e => e ▸ zz0.lt)
  have HU0 := Lib.hid (hU.below hb0)
  have HJ0 := Lib.hid (hJ.below hb0)
  obtain ⟨hug, huc, ua, rfl⟩ := hU
  have HR := Lib.hid hr
  have HB0 := Lib.hid hb0
  have HZ0 := Lib.hid zz0
  have HP0 := Lib.hid p0
  have HQ0 := Lib.hid q0
  have HN0 := Lib.hid hN0
  have HV0 := Lib.hid hv0
  have HO0 := Lib.hid ho0
  clear hv hN hr hJ hug huc ho hb0 zz0 p0 q0 hv0 ho0 hN0 hs0
  go_enter Tryz.func117, Tryz.ntmps117
  go_upto_region 1 with fail
  generalize ((w.alloc (.cells #[.int .i64 s.kind, .slice L s.labels.length lc, .slice A s.args.length ac] 27)).alloc (.cells #[.int .i64 o.kind, .string o.name, .int .i64 o.num, .slice B o.args.length bc] 30)).alloc (.cells #[.int .i64 0, .slice none 0 0, .slice none 0 0, .int .i64 0] 60) = w0 at *
  have sp0 : w0.cell? ⟨w.heap.size, 0, none⟩ = some (.int .i64 s.kind) := HP0.out.cell 0
  have sp1 : w0.cell? ⟨w.heap.size, 1, none⟩ = some (.slice L s.labels.length lc) := HP0.out.cell 1
  have sp2 : w0.cell? ⟨w.heap.size, 2, none⟩ = some (.slice A s.args.length ac) := HP0.out.cell 2
  by_cases h5 : s.kind = 5
  · have i1 : (s.kind != 5) = false := by simp [h5]
    obtain ⟨k, sl, sa⟩ := s
    simp only [Ty.kind, Ty.labels, Ty.args] at *
    subst h5
    obtain ⟨te, rfl⟩ := list_one hval
    obtain ⟨g, L', lc', A', ac', rfl, hg, x0, x1, x2, hx⟩ := HV0.out.elem 0 (by simp [Ty.args])
    have hvte : validB te = true := valid_elem hval
    have y0 : w0.cell? ⟨g, 0, none⟩ = some (.int .i64 te.kind) := x0
    have y1 : w0.cell? ⟨g, 1, none⟩ = some (.slice L' te.labels.length lc') := x1
    have y2 : w0.cell? ⟨g, 2, none⟩ = some (.slice A' te.args.length ac') := x2
    have hy : OwnA (fun b => N b ∨ b = w.heap.size + 1 + 1) w0 (.agg #[.int .i64 te.kind, .slice L' te.labels.length lc', .slice A' te.args.length ac']) te := hx
    obtain ⟨r1, hr1⟩ : ∃ x, x = typeO o te := ⟨_, rfl⟩
    have HR1 := Lib.hid hr1
    have hqb := HQ0.out.lt
    have hpb := HP0.out.lt
    have HTa : Hid (Calls Tryz.prog 68 #[.agg #[.int .i64 te.kind, .slice L' te.labels.length lc', .slice A' te.args.length ac'], .agg #[.int .i64 o.kind, .string o.name, .int .i64 o.num, .slice B o.args.length bc]] w0.drew (TypPost (fun b => N b ∨ b = w.heap.size + 1 + 1) (.iface 195 (.pointer (some ua))) r1 w0.drew)) := Lib.hid (h1 _ _ r1 te _ _ _ HN0.out (HU0.out.below (Below.refl _ _).drew) (HJ0.out.below (Below.refl _ _).drew) hy.drew (HO0.out.up (Below.refl _ _).drew) hvte hf hz hr1)
    have HBB := Lib.hid (((Below.refl w0.heap.size w0).alloc (Nat.le_refl _) (.cells #[.int .i64 0, .slice none 0 0, .slice none 0 0, .int .i64 0] 60)).drew)
    have HTb : Hid (Calls Tryz.prog 68 #[.agg #[.int .i64 te.kind, .slice L' te.labels.length lc', .slice A' te.args.length ac'], .agg #[.int .i64 o.kind, .string o.name, .int .i64 o.num, .slice B o.args.length bc]] (w0.alloc (.cells #[.int .i64 0, .slice none 0 0, .slice none 0 0, .int .i64 0] 60)).drew (TypPost (fun b => (N b ∨ b = w.heap.size + 1 + 1) ∨ b = w0.heap.size) (.iface 195 (.pointer (some ua))) r1 (w0.alloc (.cells #[.int .i64 0, .slice none 0 0, .slice none 0 0, .int .i64 0] 60)).drew)) := Lib.hid (h1 _ _ r1 te _ _ _ (fun b hb => hb.elim (fun hb => Nat.lt_of_lt_of_le (HN0.out b hb) HBB.out.size) (fun e => by subst e; simp)) (HU0.out.below HBB.out) (HJ0.out.below HBB.out) ((hy.late w0.heap.size (Nat.le_refl _)).up HBB.out) (HO0.out.up HBB.out) hvte hf hz hr1)
    clear x0 x1 x2 hx hr1 hy hvte h1 hf hz hval
    go_upto_region 3 with fail
    have bA := (Below.refl w0.heap.size w0).drew
    have bB := ((Below.refl w0.heap.size w0).alloc (Nat.le_refl _) (.cells #[.int .i64 0, .slice none 0 0, .slice none 0 0, .int .i64 0] 60)).drew
    have zB : Whole1 (w0.alloc (.cells #[.int .i64 0, .slice none 0 0, .slice none 0 0, .int .i64 0] 60)).drew w0.heap.size 60 #[.int .i64 0, .slice none 0 0, .slice none 0 0, .int .i64 0] := Whole1.new w0 60 #[.int .i64 0, .slice none 0 0, .slice none 0 0, .int .i64 0]
    have fa0 : w0.drew.cell? ⟨w.heap.size, 2, none⟩ = some (.slice (some ⟨g, 0, none⟩) 1 ac) := (HP0.out.cell 2)
    have fg0 : (w0.alloc (.cells #[.int .i64 0, .slice none 0 0, .slice none 0 0, .int .i64 0] 60)).drew.cell? ⟨w.heap.size, 2, none⟩ = some (.slice (some ⟨g, 0, none⟩) 1 ac) := (bB.cell (p := ⟨w.heap.size, 2, none⟩) hpb).trans (HP0.out.cell 2)
    have fa1 : w0.drew.cell? ⟨g, 0, none⟩ = some (.int .i64 te.kind) := (y0)
    have fg1 : (w0.alloc (.cells #[.int .i64 0, .slice none 0 0, .slice none 0 0, .int .i64 0] 60)).drew.cell? ⟨g, 0, none⟩ = some (.int .i64 te.kind) := (bB.cell (p := ⟨g, 0, none⟩) hg).trans (y0)
    have fa2 : w0.drew.cell? ⟨g, 1, none⟩ = some (.slice L' te.labels.length lc') := (y1)
    have fg2 : (w0.alloc (.cells #[.int .i64 0, .slice none 0 0, .slice none 0 0, .int .i64 0] 60)).drew.cell? ⟨g, 1, none⟩ = some (.slice L' te.labels.length lc') := (bB.cell (p := ⟨g, 1, none⟩) hg).trans (y1)
    have fa3 : w0.drew.cell? ⟨g, 2, none⟩ = some (.slice A' te.args.length ac') := (y2)
    have fg3 : (w0.alloc (.cells #[.int .i64 0, .slice none 0 0, .slice none 0 0, .int .i64 0] 60)).drew.cell? ⟨g, 2, none⟩ = some (.slice A' te.args.length ac') := (bB.cell (p := ⟨g, 2, none⟩) hg).trans (y2)
    have fa4 : w0.drew.cell? ⟨w.heap.size + 1, 0, none⟩ = some (.int .i64 o.kind) := (HQ0.out.cell 0)
    have fg4 : (w0.alloc (.cells #[.int .i64 0, .slice none 0 0, .slice none 0 0, .int .i64 0] 60)).drew.cell? ⟨w.heap.size + 1, 0, none⟩ = some (.int .i64 o.kind) := (bB.cell (p := ⟨w.heap.size + 1, 0, none⟩) hqb).trans (HQ0.out.cell 0)
    have fa5 : w0.drew.cell? ⟨w.heap.size + 1, 1, none⟩ = some (.string o.name) := (HQ0.out.cell 1)
    have fg5 : (w0.alloc (.cells #[.int .i64 0, .slice none 0 0, .slice none 0 0, .int .i64 0] 60)).drew.cell? ⟨w.heap.size + 1, 1, none⟩ = some (.string o.name) := (bB.cell (p := ⟨w.heap.size + 1, 1, none⟩) hqb).trans (HQ0.out.cell 1)
    have fa6 : w0.drew.cell? ⟨w.heap.size + 1, 2, none⟩ = some (.int .i64 o.num) := (HQ0.out.cell 2)
    have fg6 : (w0.alloc (.cells #[.int .i64 0, .slice none 0 0, .slice none 0 0, .int .i64 0] 60)).drew.cell? ⟨w.heap.size + 1, 2, none⟩ = some (.int .i64 o.num) := (bB.cell (p := ⟨w.heap.size + 1, 2, none⟩) hqb).trans (HQ0.out.cell 2)
    have fa7 : w0.drew.cell? ⟨w.heap.size + 1, 3, none⟩ = some (.slice B o.args.length bc) := (HQ0.out.cell 3)
    have fg7 : (w0.alloc (.cells #[.int .i64 0, .slice none 0 0, .slice none 0 0, .int .i64 0] 60)).drew.cell? ⟨w.heap.size + 1, 3, none⟩ = some (.slice B o.args.length bc) := (bB.cell (p := ⟨w.heap.size + 1, 3, none⟩) hqb).trans (HQ0.out.cell 3)
    go_cut [6, 7] from 14 to 23 (fun p x wx => ∃ z L1 lc1 A1 ac1 t1 k1, p = .pointer (some ⟨z, 0, none⟩) ∧ GotT (fun b => N b ∨ b = w.heap.size + 1 + 1) (.iface 195 (.pointer (some ua))) r1 w0 wx z L1 lc1 A1 ac1 t1 k1 x)
    case first =>
      go_region_held3 (fun x' : World => x'.cell? ⟨w.heap.size, 2, none⟩ = some (.slice (some ⟨g, 0, none⟩) 1 ac) ∧ x'.cell? ⟨g, 0, none⟩ = some (.int .i64 te.kind) ∧ x'.cell? ⟨g, 1, none⟩ = some (.slice L' te.labels.length lc') ∧ x'.cell? ⟨g, 2, none⟩ = some (.slice A' te.args.length ac') ∧ x'.cell? ⟨w.heap.size + 1, 0, none⟩ = some (.int .i64 o.kind) ∧ x'.cell? ⟨w.heap.size + 1, 1, none⟩ = some (.string o.name) ∧ x'.cell? ⟨w.heap.size + 1, 2, none⟩ = some (.int .i64 o.num) ∧ x'.cell? ⟨w.heap.size + 1, 3, none⟩ = some (.slice B o.args.length bc)) (first | with_reducible exact ⟨fa0, fa1, fa2, fa3, fa4, fa5, fa6, fa7⟩ | with_reducible exact ⟨fg0, fg1, fg2, fg3, fg4, fg5, fg6, fg7⟩ | with_reducible exact ⟨fk0, fk1, fk2, fk3, fk4, fk5, fk6, fk7⟩ | with_reducible exact ⟨fl0, fl1, fl2, fl3, fl4, fl5, fl6, fl7⟩ | with_reducible exact ⟨fm0, fm1, fm2, fm3, fm4, fm5, fm6, fm7⟩ | with_reducible exact ⟨fn0, fn1, fn2, fn3, fn4, fn5, fn6, fn7⟩ | go_keep) (first | (go_simp; go_at_call 68; (first | (with_reducible refine HTa.out.mono ?_) | (with_reducible refine HTb.out.mono ?_)); rintro e w1 ⟨L1, lc1, A1, ac1, t1, k1, x1, rfl, hv2, hb1', hs1, hor⟩; have HV2 := Lib.hid hv2; have HOR := Lib.hid hor; have HSS := Lib.hid hs1; have hb1 : Below w0.heap.size w0 w1 := (by first | exact bA.trans (hb1'.mono bA.size) | exact bB.trans (hb1'.mono bB.size)); (try have HZ1 := Lib.hid (zB.below hb1' zB.lt)); (try have zq0 : w1.cell? ⟨w0.heap.size, 0, none⟩ = some (.int .i64 0) := HZ1.out.cell 0); (try have zr0 : w1.frozen? ⟨w0.heap.size, 0, none⟩ = false := HZ1.out.free 0); (try have zq1 : w1.cell? ⟨w0.heap.size, 1, none⟩ = some (.slice none 0 0) := HZ1.out.cell 1); (try have zr1 : w1.frozen? ⟨w0.heap.size, 1, none⟩ = false := HZ1.out.free 1); (try have zq2 : w1.cell? ⟨w0.heap.size, 2, none⟩ = some (.slice none 0 0) := HZ1.out.cell 2); (try have zr2 : w1.frozen? ⟨w0.heap.size, 2, none⟩ = false := HZ1.out.free 2); (try have zq3 : w1.cell? ⟨w0.heap.size, 3, none⟩ = some (.int .i64 0) := HZ1.out.cell 3); (try have zr3 : w1.frozen? ⟨w0.heap.size, 3, none⟩ = false := HZ1.out.free 3); have fk0 : w1.cell? ⟨w.heap.size, 2, none⟩ = some (.slice (some ⟨g, 0, none⟩) 1 ac) := (hb1.cell (p := ⟨w.heap.size, 2, none⟩) hpb).trans (HP0.out.cell 2); have fk1 : w1.cell? ⟨g, 0, none⟩ = some (.int .i64 te.kind) := (hb1.cell (p := ⟨g, 0, none⟩) hg).trans (y0); have fk2 : w1.cell? ⟨g, 1, none⟩ = some (.slice L' te.labels.length lc') := (hb1.cell (p := ⟨g, 1, none⟩) hg).trans (y1); have fk3 : w1.cell? ⟨g, 2, none⟩ = some (.slice A' te.args.length ac') := (hb1.cell (p := ⟨g, 2, none⟩) hg).trans (y2); have fk4 : w1.cell? ⟨w.heap.size + 1, 0, none⟩ = some (.int .i64 o.kind) := (hb1.cell (p := ⟨w.heap.size + 1, 0, none⟩) hqb).trans (HQ0.out.cell 0); have fk5 : w1.cell? ⟨w.heap.size + 1, 1, none⟩ = some (.string o.name) := (hb1.cell (p := ⟨w.heap.size + 1, 1, none⟩) hqb).trans (HQ0.out.cell 1); have fk6 : w1.cell? ⟨w.heap.size + 1, 2, none⟩ = some (.int .i64 o.num) := (hb1.cell (p := ⟨w.heap.size + 1, 2, none⟩) hqb).trans (HQ0.out.cell 2); have fk7 : w1.cell? ⟨w.heap.size + 1, 3, none⟩ = some (.slice B o.args.length bc) := (hb1.cell (p := ⟨w.heap.size + 1, 3, none⟩) hqb).trans (HQ0.out.cell 3); have hb2 := hb1.trans (((Below.refl w1.heap.size w1).alloc (Nat.le_refl _) (.cells #[.int .i64 0, .slice none 0 0, .slice none 0 0, .int .i64 0] 60)).mono hb1.size); have hb3 := hb1.trans (((Below.refl w1.heap.size w1).alloc (Nat.le_refl _) (.cells #[.int .i64 t1.kind, .slice L1 t1.labels.length lc1, .slice A1 t1.args.length ac1, .int .i64 k1] 60)).mono hb1.size); have fl0 : (w1.alloc (.cells #[.int .i64 0, .slice none 0 0, .slice none 0 0, .int .i64 0] 60)).cell? ⟨w.heap.size, 2, none⟩ = some (.slice (some ⟨g, 0, none⟩) 1 ac) := (hb2.cell (p := ⟨w.heap.size, 2, none⟩) hpb).trans (HP0.out.cell 2); have fm0 : (w1.alloc (.cells #[.int .i64 t1.kind, .slice L1 t1.labels.length lc1, .slice A1 t1.args.length ac1, .int .i64 k1] 60)).cell? ⟨w.heap.size, 2, none⟩ = some (.slice (some ⟨g, 0, none⟩) 1 ac) := (hb3.cell (p := ⟨w.heap.size, 2, none⟩) hpb).trans (HP0.out.cell 2); have fn0 : ((((w1.setCell ⟨w0.heap.size, 0, none⟩ (.int .i64 t1.kind)).setCell ⟨w0.heap.size, 1, none⟩ (.slice L1 t1.labels.length lc1)).setCell ⟨w0.heap.size, 2, none⟩ (.slice A1 t1.args.length ac1)).setCell ⟨w0.heap.size, 3, none⟩ (.int .i64 k1)).cell? ⟨w.heap.size, 2, none⟩ = some (.slice (some ⟨g, 0, none⟩) 1 ac) := typ_far _ _ _ _ _ fk0 (Ne.symm (Nat.ne_of_lt hpb)); have fl1 : (w1.alloc (.cells #[.int .i64 0, .slice none 0 0, .slice none 0 0, .int .i64 0] 60)).cell? ⟨g, 0, none⟩ = some (.int .i64 te.kind) := (hb2.cell (p := ⟨g, 0, none⟩) hg).trans (y0); have fm1 : (w1.alloc (.cells #[.int .i64 t1.kind, .slice L1 t1.labels.length lc1, .slice A1 t1.args.length ac1, .int .i64 k1] 60)).cell? ⟨g, 0, none⟩ = some (.int .i64 te.kind) := (hb3.cell (p := ⟨g, 0, none⟩) hg).trans (y0); have fn1 : ((((w1.setCell ⟨w0.heap.size, 0, none⟩ (.int .i64 t1.kind)).setCell ⟨w0.heap.size, 1, none⟩ (.slice L1 t1.labels.length lc1)).setCell ⟨w0.heap.size, 2, none⟩ (.slice A1 t1.args.length ac1)).setCell ⟨w0.heap.size, 3, none⟩ (.int .i64 k1)).cell? ⟨g, 0, none⟩ = some (.int .i64 te.kind) := typ_far _ _ _ _ _ fk1 (Ne.symm (Nat.ne_of_lt hg)); have fl2 : (w1.alloc (.cells #[.int .i64 0, .slice none 0 0, .slice none 0 0, .int .i64 0] 60)).cell? ⟨g, 1, none⟩ = some (.slice L' te.labels.length lc') := (hb2.cell (p := ⟨g, 1, none⟩) hg).trans (y1); have fm2 : (w1.alloc (.cells #[.int .i64 t1.kind, .slice L1 t1.labels.length lc1, .slice A1 t1.args.length ac1, .int .i64 k1] 60)).cell? ⟨g, 1, none⟩ = some (.slice L' te.labels.length lc') := (hb3.cell (p := ⟨g, 1, none⟩) hg).trans (y1); have fn2 : ((((w1.setCell ⟨w0.heap.size, 0, none⟩ (.int .i64 t1.kind)).setCell ⟨w0.heap.size, 1, none⟩ (.slice L1 t1.labels.length lc1)).setCell ⟨w0.heap.size, 2, none⟩ (.slice A1 t1.args.length ac1)).setCell ⟨w0.heap.size, 3, none⟩ (.int .i64 k1)).cell? ⟨g, 1, none⟩ = some (.slice L' te.labels.length lc') := typ_far _ _ _ _ _ fk2 (Ne.symm (Nat.ne_of_lt hg)); have fl3 : (w1.alloc (.cells #[.int .i64 0, .slice none 0 0, .slice none 0 0, .int .i64 0] 60)).cell? ⟨g, 2, none⟩ = some (.slice A' te.args.length ac') := (hb2.cell (p := ⟨g, 2, none⟩) hg).trans (y2); have fm3 : (w1.alloc (.cells #[.int .i64 t1.kind, .slice L1 t1.labels.length lc1, .slice A1 t1.args.length ac1, .int .i64 k1] 60)).cell? ⟨g, 2, none⟩ = some (.slice A' te.args.length ac') := (hb3.cell (p := ⟨g, 2, none⟩) hg).trans (y2); have fn3 : ((((w1.setCell ⟨w0.heap.size, 0, none⟩ (.int .i64 t1.kind)).setCell ⟨w0.heap.size, 1, none⟩ (.slice L1 t1.labels.length lc1)).setCell ⟨w0.heap.size, 2, none⟩ (.slice A1 t1.args.length ac1)).setCell ⟨w0.heap.size, 3, none⟩ (.int .i64 k1)).cell? ⟨g, 2, none⟩ = some (.slice A' te.args.length ac') := typ_far _ _ _ _ _ fk3 (Ne.symm (Nat.ne_of_lt hg)); have fl4 : (w1.alloc (.cells #[.int .i64 0, .slice none 0 0, .slice none 0 0, .int .i64 0] 60)).cell? ⟨w.heap.size + 1, 0, none⟩ = some (.int .i64 o.kind) := (hb2.cell (p := ⟨w.heap.size + 1, 0, none⟩) hqb).trans (HQ0.out.cell 0); have fm4 : (w1.alloc (.cells #[.int .i64 t1.kind, .slice L1 t1.labels.length lc1, .slice A1 t1.args.length ac1, .int .i64 k1] 60)).cell? ⟨w.heap.size + 1, 0, none⟩ = some (.int .i64 o.kind) := (hb3.cell (p := ⟨w.heap.size + 1, 0, none⟩) hqb).trans (HQ0.out.cell 0); have fn4 : ((((w1.setCell ⟨w0.heap.size, 0, none⟩ (.int .i64 t1.kind)).setCell ⟨w0.heap.size, 1, none⟩ (.slice L1 t1.labels.length lc1)).setCell ⟨w0.heap.size, 2, none⟩ (.slice A1 t1.args.length ac1)).setCell ⟨w0.heap.size, 3, none⟩ (.int .i64 k1)).cell? ⟨w.heap.size + 1, 0, none⟩ = some (.int .i64 o.kind) := typ_far _ _ _ _ _ fk4 (Ne.symm (Nat.ne_of_lt hqb)); have fl5 : (w1.alloc (.cells #[.int .i64 0, .slice none 0 0, .slice none 0 0, .int .i64 0] 60)).cell? ⟨w.heap.size + 1, 1, none⟩ = some (.string o.name) := (hb2.cell (p := ⟨w.heap.size + 1, 1, none⟩) hqb).trans (HQ0.out.cell 1); have fm5 : (w1.alloc (.cells #[.int .i64 t1.kind, .slice L1 t1.labels.length lc1, .slice A1 t1.args.length ac1, .int .i64 k1] 60)).cell? ⟨w.heap.size + 1, 1, none⟩ = some (.string o.name) := (hb3.cell (p := ⟨w.heap.size + 1, 1, none⟩) hqb).trans (HQ0.out.cell 1); have fn5 : ((((w1.setCell ⟨w0.heap.size, 0, none⟩ (.int .i64 t1.kind)).setCell ⟨w0.heap.size, 1, none⟩ (.slice L1 t1.labels.length lc1)).setCell ⟨w0.heap.size, 2, none⟩ (.slice A1 t1.args.length ac1)).setCell ⟨w0.heap.size, 3, none⟩ (.int .i64 k1)).cell? ⟨w.heap.size + 1, 1, none⟩ = some (.string o.name) := typ_far _ _ _ _ _ fk5 (Ne.symm (Nat.ne_of_lt hqb)); have fl6 : (w1.alloc (.cells #[.int .i64 0, .slice none 0 0, .slice none 0 0, .int .i64 0] 60)).cell? ⟨w.heap.size + 1, 2, none⟩ = some (.int .i64 o.num) := (hb2.cell (p := ⟨w.heap.size + 1, 2, none⟩) hqb).trans (HQ0.out.cell 2); have fm6 : (w1.alloc (.cells #[.int .i64 t1.kind, .slice L1 t1.labels.length lc1, .slice A1 t1.args.length ac1, .int .i64 k1] 60)).cell? ⟨w.heap.size + 1, 2, none⟩ = some (.int .i64 o.num) := (hb3.cell (p := ⟨w.heap.size + 1, 2, none⟩) hqb).trans (HQ0.out.cell 2); have fn6 : ((((w1.setCell ⟨w0.heap.size, 0, none⟩ (.int .i64 t1.kind)).setCell ⟨w0.heap.size, 1, none⟩ (.slice L1 t1.labels.length lc1)).setCell ⟨w0.heap.size, 2, none⟩ (.slice A1 t1.args.length ac1)).setCell ⟨w0.heap.size, 3, none⟩ (.int .i64 k1)).cell? ⟨w.heap.size + 1, 2, none⟩ = some (.int .i64 o.num) := typ_far _ _ _ _ _ fk6 (Ne.symm (Nat.ne_of_lt hqb)); have fl7 : (w1.alloc (.cells #[.int .i64 0, .slice none 0 0, .slice none 0 0, .int .i64 0] 60)).cell? ⟨w.heap.size + 1, 3, none⟩ = some (.slice B o.args.length bc) := (hb2.cell (p := ⟨w.heap.size + 1, 3, none⟩) hqb).trans (HQ0.out.cell 3); have fm7 : (w1.alloc (.cells #[.int .i64 t1.kind, .slice L1 t1.labels.length lc1, .slice A1 t1.args.length ac1, .int .i64 k1] 60)).cell? ⟨w.heap.size + 1, 3, none⟩ = some (.slice B o.args.length bc) := (hb3.cell (p := ⟨w.heap.size + 1, 3, none⟩) hqb).trans (HQ0.out.cell 3); have fn7 : ((((w1.setCell ⟨w0.heap.size, 0, none⟩ (.int .i64 t1.kind)).setCell ⟨w0.heap.size, 1, none⟩ (.slice L1 t1.labels.length lc1)).setCell ⟨w0.heap.size, 2, none⟩ (.slice A1 t1.args.length ac1)).setCell ⟨w0.heap.size, 3, none⟩ (.int .i64 k1)).cell? ⟨w.heap.size + 1, 3, none⟩ = some (.slice B o.args.length bc) := typ_far _ _ _ _ _ fk7 (Ne.symm (Nat.ne_of_lt hqb)); clear hb1' hb2 hb3 hv2 hor hs1))
      all_goals go_wp2
      all_goals go_meet
      all_goals first | exact ⟨_, L1, lc1, A1, ac1, t1, k1, rfl, GotT.late HV2.out hb1 HSS.out HOR.out⟩ | exact ⟨_, L1, lc1, A1, ac1, t1, k1, rfl, GotT.late (HV2.out.less fun _ h => .inl h) hb1 HSS.out HOR.out⟩ | exact ⟨_, L1, lc1, A1, ac1, t1, k1, rfl, GotT.early HV2.out HZ1.out (Nat.le_refl _) hb1 HSS.out HOR.out⟩
    case rest =>
      obtain ⟨z, L1, lc1, A1, ac1, t1, k1, rfl, hG⟩ := hcut
      have HG1 := Lib.hid hG
      have HBC := Lib.hid (HB0.out.trans (hG.below.mono HB0.out.size))
      have HUC := Lib.hid (HU0.out.below hG.below)
      have HZC := Lib.hid (HZ0.out.below hG.below HZ0.out.lt)
      have hor := hG.err
      clear hG HTa HTb y0 y1 y2
      rcases hor with ⟨rn, rfl⟩ | ⟨rs, rfl⟩
      · have HRN := Lib.hid (HR.out.trans (mapO_no1 (HR1.out.symm.trans rn)))
        have d0 : wc.cell? ⟨w.heap.size + 1 + 1, 0, none⟩ = some (.int .i64 0) := HZC.out.cell 0
        have df0 : wc.frozen? ⟨w.heap.size + 1 + 1, 0, none⟩ = false := HZC.out.free 0
        have d1 : wc.cell? ⟨w.heap.size + 1 + 1, 1, none⟩ = some (.slice none 0 0) := HZC.out.cell 1
        have df1 : wc.frozen? ⟨w.heap.size + 1 + 1, 1, none⟩ = false := HZC.out.free 1
        have d2 : wc.cell? ⟨w.heap.size + 1 + 1, 2, none⟩ = some (.slice none 0 0) := HZC.out.cell 2
        have df2 : wc.frozen? ⟨w.heap.size + 1 + 1, 2, none⟩ = false := HZC.out.free 2
        have d3 : wc.cell? ⟨w.heap.size + 1 + 1, 3, none⟩ = some (.int .i64 0) := HZC.out.cell 3
        have df3 : wc.frozen? ⟨w.heap.size + 1 + 1, 3, none⟩ = false := HZC.out.free 3
        have e0 : wc.drew.cell? ⟨w.heap.size + 1 + 1, 0, none⟩ = some (.int .i64 0) := d0
        have ef0 : wc.drew.frozen? ⟨w.heap.size + 1 + 1, 0, none⟩ = false := df0
        have e1 : wc.drew.cell? ⟨w.heap.size + 1 + 1, 1, none⟩ = some (.slice none 0 0) := d1
        have ef1 : wc.drew.frozen? ⟨w.heap.size + 1 + 1, 1, none⟩ = false := df1
        have e2 : wc.drew.cell? ⟨w.heap.size + 1 + 1, 2, none⟩ = some (.slice none 0 0) := d2
        have ef2 : wc.drew.frozen? ⟨w.heap.size + 1 + 1, 2, none⟩ = false := df2
        have e3 : wc.drew.cell? ⟨w.heap.size + 1 + 1, 3, none⟩ = some (.int .i64 0) := d3
        have ef3 : wc.drew.frozen? ⟨w.heap.size + 1 + 1, 3, none⟩ = false := df3
        have hu0 : wc.cell? ⟨0, 0, none⟩ = some (.iface 195 (.pointer (some ua))) := HUC.out.2.1
        have hud : wc.drew.cell? ⟨0, 0, none⟩ = some (.iface 195 (.pointer (some ua))) := hu0
        have HF := Lib.hid (typ_none (N := N) (u := (.iface 195 (.pointer (some ua)))) HBC.out HRN.out)
        have HG := Lib.hid (fun a b c d => typ_drew ((typ_none4 (N := N) (u := (.iface 195 (.pointer (some ua)))) (show w.heap.size ≤ w.heap.size + 1 + 1 by omega) HBC.out HRN.out a b c d)))
        clear rn
        go_wp2
        go_region
        go_wp2
        first | exact bodyPost_ret (v := .tuple #[.agg #[.int .i64 0, .slice none 0 0, .slice none 0 0, .int .i64 0], .iface 195 (.pointer (some ua))]) (by simp [results, Tryz.results117, go_sem, d0, d1, d2, d3, e0, e1, e2, e3]) rfl HF.out | exact bodyPost_ret (v := .tuple #[.agg #[.int .i64 0, .slice none 0 0, .slice none 0 0, .int .i64 0], .iface 195 (.pointer (some ua))]) (by simp [results, Tryz.results117, go_sem, d0, d1, d2, d3, e0, e1, e2, e3]) rfl (HG.out _ _ _ _)
      · have HRS := Lib.hid (HR1.out.symm.trans rs)
        clear rs
        have m0 : wc.cell? ⟨z, 0, none⟩ = some (.int .i64 t1.kind) := HG1.out.box.cell 0
        have m1 : wc.cell? ⟨z, 1, none⟩ = some (.slice L1 t1.labels.length lc1) := HG1.out.box.cell 1
        have m2 : wc.cell? ⟨z, 2, none⟩ = some (.slice A1 t1.args.length ac1) := HG1.out.box.cell 2
        have m3 : wc.cell? ⟨z, 3, none⟩ = some (.int .i64 k1) := HG1.out.box.cell 3
        by_cases hk : k1 = 1
        · subst hk
          have HRY := Lib.hid (HR.out.trans (mapO_yes HRS.out))
          have hst : szTy (Ty.mk 5 [] [t1]) ≤ 2000 := by
            have h1 := szTy_eq (Ty.mk 5 [] [t1])
            have h2 := szTy_valid (typeO_valid HRS.out)
            simp [Ty.labels, Ty.args, sumSizes, szTys] at h1
            omega
          obtain ⟨hb8, r8, q8, hs8⟩ := boxes2 wc 27 27 #[.int .i64 t1.kind, .slice L1 t1.labels.length lc1, .slice A1 t1.args.length ac1] #[.int .i64 5, .slice none 0 0, .slice (some ⟨wc.heap.size, 0, none⟩) 1 1]
          have hzz : w.heap.size + 1 + 1 < wc.heap.size := HZC.out.lt
          have hown := list_own (ac := 1) (k := 5) HG1.out.tree (fun q hq => hq.elim (fun h => Nat.lt_of_lt_of_le (HN0.out q (.inl h)) HG1.out.below.size) (fun e => e ▸ hzz)) hb8 (Nat.le_refl _) r8
          have HF := Lib.hid (fun a b c d => typ_fin (r := r) (u := (.iface 195 (.pointer (some ua)))) (kd := 1) (show w.heap.size ≤ w.heap.size + 1 + 1 by omega) (HBC.out.trans (hb8.mono HBC.out.size)) hown hst (.inr ⟨HRY.out, rfl⟩) a b c d)
          have z8 := HZC.out.below hb8 HZC.out.lt
          have d0 : ((wc.alloc (.cells #[.int .i64 t1.kind, .slice L1 t1.labels.length lc1, .slice A1 t1.args.length ac1] 27)).alloc (.cells #[.int .i64 5, .slice none 0 0, .slice (some ⟨wc.heap.size, 0, none⟩) 1 1] 27)).cell? ⟨w.heap.size + 1 + 1, 0, none⟩ = some (.int .i64 0) := z8.cell 0
          have df0 : ((wc.alloc (.cells #[.int .i64 t1.kind, .slice L1 t1.labels.length lc1, .slice A1 t1.args.length ac1] 27)).alloc (.cells #[.int .i64 5, .slice none 0 0, .slice (some ⟨wc.heap.size, 0, none⟩) 1 1] 27)).frozen? ⟨w.heap.size + 1 + 1, 0, none⟩ = false := z8.free 0
          have d1 : ((wc.alloc (.cells #[.int .i64 t1.kind, .slice L1 t1.labels.length lc1, .slice A1 t1.args.length ac1] 27)).alloc (.cells #[.int .i64 5, .slice none 0 0, .slice (some ⟨wc.heap.size, 0, none⟩) 1 1] 27)).cell? ⟨w.heap.size + 1 + 1, 1, none⟩ = some (.slice none 0 0) := z8.cell 1
          have df1 : ((wc.alloc (.cells #[.int .i64 t1.kind, .slice L1 t1.labels.length lc1, .slice A1 t1.args.length ac1] 27)).alloc (.cells #[.int .i64 5, .slice none 0 0, .slice (some ⟨wc.heap.size, 0, none⟩) 1 1] 27)).frozen? ⟨w.heap.size + 1 + 1, 1, none⟩ = false := z8.free 1
          have d2 : ((wc.alloc (.cells #[.int .i64 t1.kind, .slice L1 t1.labels.length lc1, .slice A1 t1.args.length ac1] 27)).alloc (.cells #[.int .i64 5, .slice none 0 0, .slice (some ⟨wc.heap.size, 0, none⟩) 1 1] 27)).cell? ⟨w.heap.size + 1 + 1, 2, none⟩ = some (.slice none 0 0) := z8.cell 2
          have df2 : ((wc.alloc (.cells #[.int .i64 t1.kind, .slice L1 t1.labels.length lc1, .slice A1 t1.args.length ac1] 27)).alloc (.cells #[.int .i64 5, .slice none 0 0, .slice (some ⟨wc.heap.size, 0, none⟩) 1 1] 27)).frozen? ⟨w.heap.size + 1 + 1, 2, none⟩ = false := z8.free 2
          have d3 : ((wc.alloc (.cells #[.int .i64 t1.kind, .slice L1 t1.labels.length lc1, .slice A1 t1.args.length ac1] 27)).alloc (.cells #[.int .i64 5, .slice none 0 0, .slice (some ⟨wc.heap.size, 0, none⟩) 1 1] 27)).cell? ⟨w.heap.size + 1 + 1, 3, none⟩ = some (.int .i64 0) := z8.cell 3
          have df3 : ((wc.alloc (.cells #[.int .i64 t1.kind, .slice L1 t1.labels.length lc1, .slice A1 t1.args.length ac1] 27)).alloc (.cells #[.int .i64 5, .slice none 0 0, .slice (some ⟨wc.heap.size, 0, none⟩) 1 1] 27)).frozen? ⟨w.heap.size + 1 + 1, 3, none⟩ = false := z8.free 3
          clear hs8 hown r8 q8 hb8 z8 hst hzz
          go_wp2
          exact bodyPost_ret (v := .tuple #[.agg #[.int .i64 5, .slice none 0 0, .slice (some ⟨wc.heap.size, 0, none⟩) 1 1, .int .i64 1], .nilIface]) (by simp [results, Tryz.results117, go_sem, d0, d1, d2, d3]) rfl (HF.out _ _ _ _)
        · have i2 : (k1 != 1) = true := by simpa using hk
          have HRN := Lib.hid (HR.out.trans (mapO_no2 HRS.out hk))
          clear hk
          have d0 : wc.cell? ⟨w.heap.size + 1 + 1, 0, none⟩ = some (.int .i64 0) := HZC.out.cell 0
          have df0 : wc.frozen? ⟨w.heap.size + 1 + 1, 0, none⟩ = false := HZC.out.free 0
          have d1 : wc.cell? ⟨w.heap.size + 1 + 1, 1, none⟩ = some (.slice none 0 0) := HZC.out.cell 1
          have df1 : wc.frozen? ⟨w.heap.size + 1 + 1, 1, none⟩ = false := HZC.out.free 1
          have d2 : wc.cell? ⟨w.heap.size + 1 + 1, 2, none⟩ = some (.slice none 0 0) := HZC.out.cell 2
          have df2 : wc.frozen? ⟨w.heap.size + 1 + 1, 2, none⟩ = false := HZC.out.free 2
          have d3 : wc.cell? ⟨w.heap.size + 1 + 1, 3, none⟩ = some (.int .i64 0) := HZC.out.cell 3
          have df3 : wc.frozen? ⟨w.heap.size + 1 + 1, 3, none⟩ = false := HZC.out.free 3
          have e0 : wc.drew.cell? ⟨w.heap.size + 1 + 1, 0, none⟩ = some (.int .i64 0) := d0
          have ef0 : wc.drew.frozen? ⟨w.heap.size + 1 + 1, 0, none⟩ = false := df0
          have e1 : wc.drew.cell? ⟨w.heap.size + 1 + 1, 1, none⟩ = some (.slice none 0 0) := d1
          have ef1 : wc.drew.frozen? ⟨w.heap.size + 1 + 1, 1, none⟩ = false := df1
          have e2 : wc.drew.cell? ⟨w.heap.size + 1 + 1, 2, none⟩ = some (.slice none 0 0) := d2
          have ef2 : wc.drew.frozen? ⟨w.heap.size + 1 + 1, 2, none⟩ = false := df2
          have e3 : wc.drew.cell? ⟨w.heap.size + 1 + 1, 3, none⟩ = some (.int .i64 0) := d3
          have ef3 : wc.drew.frozen? ⟨w.heap.size + 1 + 1, 3, none⟩ = false := df3
          have hu0 : wc.cell? ⟨0, 0, none⟩ = some (.iface 195 (.pointer (some ua))) := HUC.out.2.1
          have hud : wc.drew.cell? ⟨0, 0, none⟩ = some (.iface 195 (.pointer (some ua))) := hu0
          have HF := Lib.hid (typ_none (N := N) (u := (.iface 195 (.pointer (some ua)))) HBC.out HRN.out)
          have HG := Lib.hid (fun a b c d => typ_drew ((typ_none4 (N := N) (u := (.iface 195 (.pointer (some ua)))) (show w.heap.size ≤ w.heap.size + 1 + 1 by omega) HBC.out HRN.out a b c d)))
          go_wp2
          go_region
          go_wp2
          first | exact bodyPost_ret (v := .tuple #[.agg #[.int .i64 0, .slice none 0 0, .slice none 0 0, .int .i64 0], .iface 195 (.pointer (some ua))]) (by simp [results, Tryz.results117, go_sem, d0, d1, d2, d3, e0, e1, e2, e3]) rfl HF.out | exact bodyPost_ret (v := .tuple #[.agg #[.int .i64 0, .slice none 0 0, .slice none 0 0, .int .i64 0], .iface 195 (.pointer (some ua))]) (by simp [results, Tryz.results117, go_sem, d0, d1, d2, d3, e0, e1, e2, e3]) rfl (HG.out _ _ _ _)
  · have i1 : (s.kind != 5) = true := by simpa using h5
    have HRN := Lib.hid (HR.out.trans (mapO_none h5))
    clear h5
    have d0 : w0.cell? ⟨w.heap.size + 1 + 1, 0, none⟩ = some (.int .i64 0) := HZ0.out.cell 0
    have df0 : w0.frozen? ⟨w.heap.size + 1 + 1, 0, none⟩ = false := HZ0.out.free 0
    have d1 : w0.cell? ⟨w.heap.size + 1 + 1, 1, none⟩ = some (.slice none 0 0) := HZ0.out.cell 1
    have df1 : w0.frozen? ⟨w.heap.size + 1 + 1, 1, none⟩ = false := HZ0.out.free 1
    have d2 : w0.cell? ⟨w.heap.size + 1 + 1, 2, none⟩ = some (.slice none 0 0) := HZ0.out.cell 2
    have df2 : w0.frozen? ⟨w.heap.size + 1 + 1, 2, none⟩ = false := HZ0.out.free 2
    have d3 : w0.cell? ⟨w.heap.size + 1 + 1, 3, none⟩ = some (.int .i64 0) := HZ0.out.cell 3
    have df3 : w0.frozen? ⟨w.heap.size + 1 + 1, 3, none⟩ = false := HZ0.out.free 3
    have e0 : w0.drew.cell? ⟨w.heap.size + 1 + 1, 0, none⟩ = some (.int .i64 0) := d0
    have ef0 : w0.drew.frozen? ⟨w.heap.size + 1 + 1, 0, none⟩ = false := df0
    have e1 : w0.drew.cell? ⟨w.heap.size + 1 + 1, 1, none⟩ = some (.slice none 0 0) := d1
    have ef1 : w0.drew.frozen? ⟨w.heap.size + 1 + 1, 1, none⟩ = false := df1
    have e2 : w0.drew.cell? ⟨w.heap.size + 1 + 1, 2, none⟩ = some (.slice none 0 0) := d2
    have ef2 : w0.drew.frozen? ⟨w.heap.size + 1 + 1, 2, none⟩ = false := df2
    have e3 : w0.drew.cell? ⟨w.heap.size + 1 + 1, 3, none⟩ = some (.int .i64 0) := d3
    have ef3 : w0.drew.frozen? ⟨w.heap.size + 1 + 1, 3, none⟩ = false := df3
    have hu0 : w0.cell? ⟨0, 0, none⟩ = some (.iface 195 (.pointer (some ua))) := HU0.out.2.1
    have hud : w0.drew.cell? ⟨0, 0, none⟩ = some (.iface 195 (.pointer (some ua))) := hu0
    have HF := Lib.hid (typ_none (N := N) (u := (.iface 195 (.pointer (some ua)))) HB0.out HRN.out)
    have HG := Lib.hid (fun a b c d => typ_drew ((typ_none4 (N := N) (u := (.iface 195 (.pointer (some ua)))) (show w.heap.size ≤ w.heap.size + 1 + 1 by omega) HB0.out HRN.out a b c d)))
    go_wp2
    go_region
    go_wp2
    first | exact bodyPost_ret (v := .tuple #[.agg #[.int .i64 0, .slice none 0 0, .slice none 0 0, .int .i64 0], .iface 195 (.pointer (some ua))]) (by simp [results, Tryz.results117, go_sem, d0, d1, d2, d3, e0, e1, e2, e3]) rfl HF.out | exact bodyPost_ret (v := .tuple #[.agg #[.int .i64 0, .slice none 0 0, .slice none 0 0, .int .i64 0], .iface 195 (.pointer (some ua))]) (by simp [results, Tryz.results117, go_sem, d0, d1, d2, d3, e0, e1, e2, e3]) rfl (HG.out _ _ _ _)

end Go.Proofs.YthdfidhijmcbdaaGreatDoor
end

section
namespace Go.Proofs.YthdfidhijmcbdaaGreatDoor
set_option maxRecDepth 100000
set_option linter.unusedSimpArgs false
open Go.RowKit
attribute [local go_sem ↓] Go.wp_at_zero Go.wp_at_succ

theorem elseO_no1 {f g : Ty → Option (Ty × Int)} {s a : Ty} {one : Int} (h : f s = some (a, one)) (hw : withinB one 4 = false) : elseO f g s = none := by
  simp only [elseO, h, hw, Bool.false_and, Bool.false_eq_true, if_false]
  cases g s <;> rfl
theorem elseO_no2 {f g : Ty → Option (Ty × Int)} {s a : Ty} {one : Int} (h : f s = some (a, one)) (hg : g s = none) : elseO f g s = none := by simp only [elseO, h, hg]
theorem elseO_no3 {f g : Ty → Option (Ty × Int)} {s a b : Ty} {one two : Int} (h : f s = some (a, one)) (hg : g s = some (b, two)) (hw : withinB two 4 = false) : elseO f g s = none := by
  simp only [elseO, h, hg, hw, Bool.false_and, Bool.and_false, Bool.false_eq_true, if_false]
theorem elseO_no4 {f g : Ty → Option (Ty × Int)} {s a b : Ty} {one two : Int} (h : f s = some (a, one)) (hg : g s = some (b, two)) (hw : eqTyB a b = false) : elseO f g s = none := by
  simp only [elseO, h, hg, hw, Bool.and_false, Bool.false_eq_true, if_false]
theorem elseO_yes {f g : Ty → Option (Ty × Int)} {s a b : Ty} {one two : Int} (h : f s = some (a, one)) (hg : g s = some (b, two)) (hw : withinB one 4 = true) (hw2 : withinB two 4 = true) (he : eqTyB a b = true) : elseO f g s = some (a, 4) := by
  simp only [elseO, h, hg, hw, hw2, he, Bool.and_true, if_true]

set_option maxHeartbeats 4000000 in
theorem typElse_any (o1 o2 : Ot) (h1 : TypOne o1) (h2 : TypOne o2) {N : Nat → Prop} {u : Value} {r : Option (Ty × Int)} (s : Ty) (sv v1 v2 : Value) (w : World) (hN : ∀ b, N b → b < w.heap.size) (hU : UnfitAt w u) (hJ : JoinsAt w) (hv : OwnA N w sv s) (ho1 : OtAt w w.heap.size v1 o1) (ho2 : OtAt w w.heap.size v2 o2)
    (hval : validB s = true) (f1 : formOt o1 = true) (f2 : formOt o2 = true) (z1 : szOt o1 ≤ 1048576) (z2 : szOt o2 ≤ 1048576) (hr : r = elseO (typeO o1) (typeO o2) s) :
    Calls Tryz.prog 119 #[sv, v1, v2] w (TypPost N u r w) := by
  obtain ⟨L, lc, A, ac, rfl⟩ := hv.open
  obtain ⟨B1, bc1, rfl, _⟩ := ho1.open
  obtain ⟨B2, bc2, rfl, _⟩ := ho2.open
  obtain ⟨hb0, p0, q0, q0', zz0⟩ := boxes4 w 27 30 30 60 #[.int .i64 s.kind, .slice L s.labels.length lc, .slice A s.args.length ac] #[.int .i64 o1.kind, .string o1.name, .int .i64 o1.num, .slice B1 o1.args.length bc1] #[.int .i64 o2.kind, .string o2.name, .int .i64 o2.num, .slice B2 o2.args.length bc2] #[.int .i64 0, .slice none 0 0, .slice none 0 0, .int .i64 0]
  have hv0 := (hv.late (w.heap.size + 1 + 1 + 1) (by omega)).up hb0
  have ho1' := ho1.up hb0
  have ho2' := ho2.up hb0
  have hN0 : ∀ b, (N b ∨ b = w.heap.size + 1 + 1 + 1) → b < ((((w.alloc (.cells #[.int .i64 s.kind, .slice L s.labels.length lc, .slice A s.args.length ac] 27)).alloc (.cells #[.int .i64 o1.kind, .string o1.name, .int .i64 o1.num, .slice B1 o1.args.length bc1] 30)).alloc (.cells #[.int .i64 o2.kind, .string o2.name, .int .i64 o2.num, .slice B2 o2.args.length bc2] 30)).alloc (.cells #[.int .i64 0, .slice none 0 0, .slice none 0 0, .int .i64 0] 60)).heap.size := fun b hb => hb.elim (fun hb => Nat.lt_of_lt_of_le (hN b hb) hb0.size) (fun e => e ▸ zz0.lt)
  have HU0 := Lib.hid (hU.below hb0)
  have HJ0 := Lib.hid (hJ.below hb0)
  obtain ⟨hug, huc, ua, rfl⟩ := hU
  obtain ⟨r1, hr1⟩ : ∃ x, x = typeO o1 s := ⟨_, rfl⟩
  have HC1 := Lib.hid (h1 (fun b => N b ∨ b = w.heap.size + 1 + 1 + 1) _ r1 s _ _ _ hN0 HU0.out HJ0.out hv0 ho1' hval f1 z1 hr1)
  have HR := Lib.hid hr
  have hsv := szTy_valid hval
  have HN0 := Lib.hid hN0
  have HVAL := Lib.hid hval
  have HV0 := Lib.hid hv0
  have HR1 := Lib.hid hr1
  clear hN0 hval hv0 hv hN hr hr1 hJ hug huc ho1 ho2 ho1' f1 z1 h1
  go_enter Tryz.func119, Tryz.ntmps119
  go_wp2_with fail
  generalize (((w.alloc (.cells #[.int .i64 s.kind, .slice L s.labels.length lc, .slice A s.args.length ac] 27)).alloc (.cells #[.int .i64 o1.kind, .string o1.name, .int .i64 o1.num, .slice B1 o1.args.length bc1] 30)).alloc (.cells #[.int .i64 o2.kind, .string o2.name, .int .i64 o2.num, .slice B2 o2.args.length bc2] 30)).alloc (.cells #[.int .i64 0, .slice none 0 0, .slice none 0 0, .int .i64 0] 60) = w0 at *
  refine HC1.out.mono ?_
  rintro e w1 ⟨L1, lc1, A1, ac1, t1, k1, x1, rfl, hv1, hb1, hs1, hor⟩
  clear HC1
  have hx1 := (Below.refl w1.heap.size w1).alloc (Nat.le_refl _) (.cells #[.int .i64 t1.kind, .slice L1 t1.labels.length lc1, .slice A1 t1.args.length ac1, .int .i64 k1] 60)
  have hc1 := hb1
  have hd1 := hc1.trans (hx1.mono hc1.size)
  have hv1x := hv1.up hx1
  have n1 : Whole1 (w1.alloc (.cells #[.int .i64 t1.kind, .slice L1 t1.labels.length lc1, .slice A1 t1.args.length ac1, .int .i64 k1] 60)) w1.heap.size 60 #[.int .i64 t1.kind, .slice L1 t1.labels.length lc1, .slice A1 t1.args.length ac1, .int .i64 k1] := Whole1.new _ _ _
  have zzx1 := zz0.below hd1 zz0.lt
  have HB1 := Lib.hid (hb0.trans (hd1.mono hb0.size))
  have HUU1 := Lib.hid (HU0.out.below hd1)
  have HJJ1 := Lib.hid (HJ0.out.below hd1)
  go_upto_region 2 with fail
  generalize (w1.alloc (.cells #[.int .i64 t1.kind, .slice L1 t1.labels.length lc1, .slice A1 t1.args.length ac1, .int .i64 k1] 60)) = W1 at *
  have HN1 := Lib.hid n1
  have HD1 := Lib.hid hd1
  have HS1 := Lib.hid hs1
  have HV1 := Lib.hid hv1x
  have HZ1 := Lib.hid zzx1
  have HZ0 := Lib.hid zz0
  have HB0 := Lib.hid hb0
  have HP0 := Lib.hid p0
  have HQ0 := Lib.hid q0'
  have HO2 := Lib.hid ho2'
  clear hd1 hs1 hv1x zzx1 zz0 hb0 p0 q0 q0' ho2' hb1 hx1 hc1 hv1 n1
  rcases hor with ⟨rn, rfl⟩ | ⟨rs, rfl⟩
  · have HRN := Lib.hid (HR.out.trans (elseO_none (HR1.out.symm.trans rn)))
    have d0 : W1.cell? ⟨w.heap.size + 1 + 1 + 1, 0, none⟩ = some (.int .i64 0) := HZ1.out.cell 0
    have df0 : W1.frozen? ⟨w.heap.size + 1 + 1 + 1, 0, none⟩ = false := HZ1.out.free 0
    have d1 : W1.cell? ⟨w.heap.size + 1 + 1 + 1, 1, none⟩ = some (.slice none 0 0) := HZ1.out.cell 1
    have df1 : W1.frozen? ⟨w.heap.size + 1 + 1 + 1, 1, none⟩ = false := HZ1.out.free 1
    have d2 : W1.cell? ⟨w.heap.size + 1 + 1 + 1, 2, none⟩ = some (.slice none 0 0) := HZ1.out.cell 2
    have df2 : W1.frozen? ⟨w.heap.size + 1 + 1 + 1, 2, none⟩ = false := HZ1.out.free 2
    have d3 : W1.cell? ⟨w.heap.size + 1 + 1 + 1, 3, none⟩ = some (.int .i64 0) := HZ1.out.cell 3
    have df3 : W1.frozen? ⟨w.heap.size + 1 + 1 + 1, 3, none⟩ = false := HZ1.out.free 3
    have e0 : W1.drew.cell? ⟨w.heap.size + 1 + 1 + 1, 0, none⟩ = some (.int .i64 0) := d0
    have ef0 : W1.drew.frozen? ⟨w.heap.size + 1 + 1 + 1, 0, none⟩ = false := df0
    have e1 : W1.drew.cell? ⟨w.heap.size + 1 + 1 + 1, 1, none⟩ = some (.slice none 0 0) := d1
    have ef1 : W1.drew.frozen? ⟨w.heap.size + 1 + 1 + 1, 1, none⟩ = false := df1
    have e2 : W1.drew.cell? ⟨w.heap.size + 1 + 1 + 1, 2, none⟩ = some (.slice none 0 0) := d2
    have ef2 : W1.drew.frozen? ⟨w.heap.size + 1 + 1 + 1, 2, none⟩ = false := df2
    have e3 : W1.drew.cell? ⟨w.heap.size + 1 + 1 + 1, 3, none⟩ = some (.int .i64 0) := d3
    have ef3 : W1.drew.frozen? ⟨w.heap.size + 1 + 1 + 1, 3, none⟩ = false := df3
    have hu0 : W1.cell? ⟨0, 0, none⟩ = some (.iface 195 (.pointer (some ua))) := HUU1.out.2.1
    have hud : W1.drew.cell? ⟨0, 0, none⟩ = some (.iface 195 (.pointer (some ua))) := hu0
    have HF := Lib.hid (typ_none (N := N) (u := (.iface 195 (.pointer (some ua)))) HB1.out HRN.out)
    have HG := Lib.hid (fun a b c d => typ_drew ((typ_none4 (N := N) (u := (.iface 195 (.pointer (some ua)))) (show w.heap.size ≤ w.heap.size + 1 + 1 + 1 by omega) HB1.out HRN.out a b c d)))
    clear rn
    go_wp2
    go_region
    go_wp2
    first | exact bodyPost_ret (v := .tuple #[.agg #[.int .i64 0, .slice none 0 0, .slice none 0 0, .int .i64 0], .iface 195 (.pointer (some ua))]) (by simp [results, Tryz.results119, go_sem, d0, d1, d2, d3, e0, e1, e2, e3]) rfl HF.out | exact bodyPost_ret (v := .tuple #[.agg #[.int .i64 0, .slice none 0 0, .slice none 0 0, .int .i64 0], .iface 195 (.pointer (some ua))]) (by simp [results, Tryz.results119, go_sem, d0, d1, d2, d3, e0, e1, e2, e3]) rfl (HG.out _ _ _ _)
  · have HRS := Lib.hid (HR1.out.symm.trans rs)
    have HW := Lib.hid (implIsWithin_any k1 4 W1 HJJ1.out)
    obtain ⟨r2, hr2⟩ : ∃ x, x = typeO o2 s := ⟨_, rfl⟩
    have HR2 := Lib.hid hr2
    clear hr2 rs
    have m0 : W1.cell? ⟨w1.heap.size, 0, none⟩ = some (.int .i64 t1.kind) := HN1.out.cell 0
    have m1 : W1.cell? ⟨w1.heap.size, 1, none⟩ = some (.slice L1 t1.labels.length lc1) := HN1.out.cell 1
    have m2 : W1.cell? ⟨w1.heap.size, 2, none⟩ = some (.slice A1 t1.args.length ac1) := HN1.out.cell 2
    have m3 : W1.cell? ⟨w1.heap.size, 3, none⟩ = some (.int .i64 k1) := HN1.out.cell 3
    cases hw1 : withinB k1 4
    · rw [hw1] at HW
      have HRN := Lib.hid (HR.out.trans (elseO_no1 HRS.out hw1))
      clear hw1
      go_wp2_with fail
      refine HW.out.mono ?_
      rintro e w3 ⟨rfl, hb3⟩
      have HU3 := Lib.hid (HUU1.out.below hb3)
      have HB3 := Lib.hid (HB1.out.trans (hb3.mono HB1.out.size))
      have HZ3 := Lib.hid (HZ1.out.below hb3 HZ1.out.lt)
      clear hb3 m0 m1 m2 m3
      have d0 : w3.cell? ⟨w.heap.size + 1 + 1 + 1, 0, none⟩ = some (.int .i64 0) := HZ3.out.cell 0
      have df0 : w3.frozen? ⟨w.heap.size + 1 + 1 + 1, 0, none⟩ = false := HZ3.out.free 0
      have d1 : w3.cell? ⟨w.heap.size + 1 + 1 + 1, 1, none⟩ = some (.slice none 0 0) := HZ3.out.cell 1
      have df1 : w3.frozen? ⟨w.heap.size + 1 + 1 + 1, 1, none⟩ = false := HZ3.out.free 1
      have d2 : w3.cell? ⟨w.heap.size + 1 + 1 + 1, 2, none⟩ = some (.slice none 0 0) := HZ3.out.cell 2
      have df2 : w3.frozen? ⟨w.heap.size + 1 + 1 + 1, 2, none⟩ = false := HZ3.out.free 2
      have d3 : w3.cell? ⟨w.heap.size + 1 + 1 + 1, 3, none⟩ = some (.int .i64 0) := HZ3.out.cell 3
      have df3 : w3.frozen? ⟨w.heap.size + 1 + 1 + 1, 3, none⟩ = false := HZ3.out.free 3
      have e0 : w3.drew.cell? ⟨w.heap.size + 1 + 1 + 1, 0, none⟩ = some (.int .i64 0) := d0
      have ef0 : w3.drew.frozen? ⟨w.heap.size + 1 + 1 + 1, 0, none⟩ = false := df0
      have e1 : w3.drew.cell? ⟨w.heap.size + 1 + 1 + 1, 1, none⟩ = some (.slice none 0 0) := d1
      have ef1 : w3.drew.frozen? ⟨w.heap.size + 1 + 1 + 1, 1, none⟩ = false := df1
      have e2 : w3.drew.cell? ⟨w.heap.size + 1 + 1 + 1, 2, none⟩ = some (.slice none 0 0) := d2
      have ef2 : w3.drew.frozen? ⟨w.heap.size + 1 + 1 + 1, 2, none⟩ = false := df2
      have e3 : w3.drew.cell? ⟨w.heap.size + 1 + 1 + 1, 3, none⟩ = some (.int .i64 0) := d3
      have ef3 : w3.drew.frozen? ⟨w.heap.size + 1 + 1 + 1, 3, none⟩ = false := df3
      have hu0 : w3.cell? ⟨0, 0, none⟩ = some (.iface 195 (.pointer (some ua))) := HU3.out.2.1
      have hud : w3.drew.cell? ⟨0, 0, none⟩ = some (.iface 195 (.pointer (some ua))) := hu0
      have HF := Lib.hid (typ_none (N := N) (u := (.iface 195 (.pointer (some ua)))) HB3.out HRN.out)
      have HG := Lib.hid (fun a b c d => typ_drew ((typ_none4 (N := N) (u := (.iface 195 (.pointer (some ua)))) (show w.heap.size ≤ w.heap.size + 1 + 1 + 1 by omega) HB3.out HRN.out a b c d)))
      go_wp2
      go_region
      go_wp2
      first | exact bodyPost_ret (v := .tuple #[.agg #[.int .i64 0, .slice none 0 0, .slice none 0 0, .int .i64 0], .iface 195 (.pointer (some ua))]) (by simp [results, Tryz.results119, go_sem, d0, d1, d2, d3, e0, e1, e2, e3]) rfl HF.out | exact bodyPost_ret (v := .tuple #[.agg #[.int .i64 0, .slice none 0 0, .slice none 0 0, .int .i64 0], .iface 195 (.pointer (some ua))]) (by simp [results, Tryz.results119, go_sem, d0, d1, d2, d3, e0, e1, e2, e3]) rfl (HG.out _ _ _ _)
    · rw [hw1] at HW
      have HW1 := Lib.hid hw1
      clear hw1
      go_wp2_with fail
      refine HW.out.mono ?_
      rintro e w3 ⟨rfl, hb3⟩
      have HD3 := Lib.hid (HD1.out.trans (hb3.mono HD1.out.size))
      have HU3 := Lib.hid (HUU1.out.below hb3)
      have HJ3 := Lib.hid (HJJ1.out.below hb3)
      have HN3 := Lib.hid (HN1.out.below hb3 HN1.out.lt)
      have HV3 := Lib.hid (HV1.out.up hb3)
      have HC2 := Lib.hid (h2 (fun b => N b ∨ b = w.heap.size + 1 + 1 + 1) _ r2 s _ _ w3 (fun b hb => Nat.lt_of_lt_of_le (HN0.out b hb) HD3.out.size) HU3.out HJ3.out (HV0.out.up HD3.out) (HO2.out.up HD3.out) HVAL.out f2 z2 HR2.out)
      clear hb3 m0 m1 m2 m3 HW
      have sp0 : w3.cell? ⟨w.heap.size, 0, none⟩ = some (.int .i64 s.kind) := (HP0.out.below HD3.out HP0.out.lt).cell 0
      have sp1 : w3.cell? ⟨w.heap.size, 1, none⟩ = some (.slice L s.labels.length lc) := (HP0.out.below HD3.out HP0.out.lt).cell 1
      have sp2 : w3.cell? ⟨w.heap.size, 2, none⟩ = some (.slice A s.args.length ac) := (HP0.out.below HD3.out HP0.out.lt).cell 2
      have qo0 : w3.cell? ⟨w.heap.size + 1 + 1, 0, none⟩ = some (.int .i64 o2.kind) := (HQ0.out.below HD3.out HQ0.out.lt).cell 0
      have qo1 : w3.cell? ⟨w.heap.size + 1 + 1, 1, none⟩ = some (.string o2.name) := (HQ0.out.below HD3.out HQ0.out.lt).cell 1
      have qo2 : w3.cell? ⟨w.heap.size + 1 + 1, 2, none⟩ = some (.int .i64 o2.num) := (HQ0.out.below HD3.out HQ0.out.lt).cell 2
      have qo3 : w3.cell? ⟨w.heap.size + 1 + 1, 3, none⟩ = some (.slice B2 o2.args.length bc2) := (HQ0.out.below HD3.out HQ0.out.lt).cell 3
      go_wp2_with fail
      refine HC2.out.mono ?_
      rintro e w2 ⟨L2, lc2, A2, ac2, t2, k2, x2, rfl, hv2, hb2, hs2, hor2⟩
      have hx2 := (Below.refl w2.heap.size w2).alloc (Nat.le_refl _) (.cells #[.int .i64 t2.kind, .slice L2 t2.labels.length lc2, .slice A2 t2.args.length ac2, .int .i64 k2] 60)
      have hc2 := HD3.out.trans (hb2.mono HD3.out.size)
      have HD4 := Lib.hid (hc2.trans (hx2.mono hc2.size))
      have HV4 := Lib.hid (hv2.up hx2)
      have HV5 := Lib.hid ((HV3.out.up hb2).up hx2)
      have HN4 := Lib.hid (show Whole1 (w2.alloc (.cells #[.int .i64 t2.kind, .slice L2 t2.labels.length lc2, .slice A2 t2.args.length ac2, .int .i64 k2] 60)) w2.heap.size 60 #[.int .i64 t2.kind, .slice L2 t2.labels.length lc2, .slice A2 t2.args.length ac2, .int .i64 k2] from Whole1.new _ _ _)
      have HN5 := Lib.hid ((HN3.out.below hb2 HN3.out.lt).below hx2 (HN3.out.below hb2 HN3.out.lt).lt)
      clear sp0 sp1 sp2 qo0 qo1 qo2 qo3 HC2 hx2 hc2 hv2 hb2
      go_upto_region 5 with fail
      generalize (w2.alloc (.cells #[.int .i64 t2.kind, .slice L2 t2.labels.length lc2, .slice A2 t2.args.length ac2, .int .i64 k2] 60)) = W4 at *
      have HU4 := Lib.hid (HU0.out.below HD4.out)
      have HJ4 := Lib.hid (HJ0.out.below HD4.out)
      have HB4 := Lib.hid (HB0.out.trans (HD4.out.mono HB0.out.size))
      have HZ4 := Lib.hid (HZ0.out.below HD4.out HZ0.out.lt)
      have HS2 := Lib.hid hs2
      clear hs2
      rcases hor2 with ⟨rn, rfl⟩ | ⟨rs2, rfl⟩
      · have HRN := Lib.hid (HR.out.trans (elseO_no2 HRS.out (HR2.out.symm.trans rn)))
        have d0 : W4.cell? ⟨w.heap.size + 1 + 1 + 1, 0, none⟩ = some (.int .i64 0) := HZ4.out.cell 0
        have df0 : W4.frozen? ⟨w.heap.size + 1 + 1 + 1, 0, none⟩ = false := HZ4.out.free 0
        have d1 : W4.cell? ⟨w.heap.size + 1 + 1 + 1, 1, none⟩ = some (.slice none 0 0) := HZ4.out.cell 1
        have df1 : W4.frozen? ⟨w.heap.size + 1 + 1 + 1, 1, none⟩ = false := HZ4.out.free 1
        have d2 : W4.cell? ⟨w.heap.size + 1 + 1 + 1, 2, none⟩ = some (.slice none 0 0) := HZ4.out.cell 2
        have df2 : W4.frozen? ⟨w.heap.size + 1 + 1 + 1, 2, none⟩ = false := HZ4.out.free 2
        have d3 : W4.cell? ⟨w.heap.size + 1 + 1 + 1, 3, none⟩ = some (.int .i64 0) := HZ4.out.cell 3
        have df3 : W4.frozen? ⟨w.heap.size + 1 + 1 + 1, 3, none⟩ = false := HZ4.out.free 3
        have e0 : W4.drew.cell? ⟨w.heap.size + 1 + 1 + 1, 0, none⟩ = some (.int .i64 0) := d0
        have ef0 : W4.drew.frozen? ⟨w.heap.size + 1 + 1 + 1, 0, none⟩ = false := df0
        have e1 : W4.drew.cell? ⟨w.heap.size + 1 + 1 + 1, 1, none⟩ = some (.slice none 0 0) := d1
        have ef1 : W4.drew.frozen? ⟨w.heap.size + 1 + 1 + 1, 1, none⟩ = false := df1
        have e2 : W4.drew.cell? ⟨w.heap.size + 1 + 1 + 1, 2, none⟩ = some (.slice none 0 0) := d2
        have ef2 : W4.drew.frozen? ⟨w.heap.size + 1 + 1 + 1, 2, none⟩ = false := df2
        have e3 : W4.drew.cell? ⟨w.heap.size + 1 + 1 + 1, 3, none⟩ = some (.int .i64 0) := d3
        have ef3 : W4.drew.frozen? ⟨w.heap.size + 1 + 1 + 1, 3, none⟩ = false := df3
        have hu0 : W4.cell? ⟨0, 0, none⟩ = some (.iface 195 (.pointer (some ua))) := HU4.out.2.1
        have hud : W4.drew.cell? ⟨0, 0, none⟩ = some (.iface 195 (.pointer (some ua))) := hu0
        have HF := Lib.hid (typ_none (N := N) (u := (.iface 195 (.pointer (some ua)))) HB4.out HRN.out)
        have HG := Lib.hid (fun a b c d => typ_drew ((typ_none4 (N := N) (u := (.iface 195 (.pointer (some ua)))) (show w.heap.size ≤ w.heap.size + 1 + 1 + 1 by omega) HB4.out HRN.out a b c d)))
        clear rn
        go_wp2
        go_region
        go_wp2
        first | exact bodyPost_ret (v := .tuple #[.agg #[.int .i64 0, .slice none 0 0, .slice none 0 0, .int .i64 0], .iface 195 (.pointer (some ua))]) (by simp [results, Tryz.results119, go_sem, d0, d1, d2, d3, e0, e1, e2, e3]) rfl HF.out | exact bodyPost_ret (v := .tuple #[.agg #[.int .i64 0, .slice none 0 0, .slice none 0 0, .int .i64 0], .iface 195 (.pointer (some ua))]) (by simp [results, Tryz.results119, go_sem, d0, d1, d2, d3, e0, e1, e2, e3]) rfl (HG.out _ _ _ _)
      · have HRT := Lib.hid (HR2.out.symm.trans rs2)
        have HW2 := Lib.hid (implIsWithin_any k2 4 W4 HJ4.out)
        clear rs2
        have m0 : W4.cell? ⟨w2.heap.size, 0, none⟩ = some (.int .i64 t2.kind) := HN4.out.cell 0
        have m1 : W4.cell? ⟨w2.heap.size, 1, none⟩ = some (.slice L2 t2.labels.length lc2) := HN4.out.cell 1
        have m2 : W4.cell? ⟨w2.heap.size, 2, none⟩ = some (.slice A2 t2.args.length ac2) := HN4.out.cell 2
        have m3 : W4.cell? ⟨w2.heap.size, 3, none⟩ = some (.int .i64 k2) := HN4.out.cell 3
        cases hw2 : withinB k2 4
        · rw [hw2] at HW2
          have HRN := Lib.hid (HR.out.trans (elseO_no3 HRS.out HRT.out hw2))
          clear hw2
          go_wp2_with fail
          refine HW2.out.mono ?_
          rintro e w5 ⟨rfl, hb5⟩
          have HU5 := Lib.hid (HU4.out.below hb5)
          have HB5 := Lib.hid (HB4.out.trans (hb5.mono HB4.out.size))
          have HZ5 := Lib.hid (HZ4.out.below hb5 HZ4.out.lt)
          clear hb5 m0 m1 m2 m3
          have d0 : w5.cell? ⟨w.heap.size + 1 + 1 + 1, 0, none⟩ = some (.int .i64 0) := HZ5.out.cell 0
          have df0 : w5.frozen? ⟨w.heap.size + 1 + 1 + 1, 0, none⟩ = false := HZ5.out.free 0
          have d1 : w5.cell? ⟨w.heap.size + 1 + 1 + 1, 1, none⟩ = some (.slice none 0 0) := HZ5.out.cell 1
          have df1 : w5.frozen? ⟨w.heap.size + 1 + 1 + 1, 1, none⟩ = false := HZ5.out.free 1
          have d2 : w5.cell? ⟨w.heap.size + 1 + 1 + 1, 2, none⟩ = some (.slice none 0 0) := HZ5.out.cell 2
          have df2 : w5.frozen? ⟨w.heap.size + 1 + 1 + 1, 2, none⟩ = false := HZ5.out.free 2
          have d3 : w5.cell? ⟨w.heap.size + 1 + 1 + 1, 3, none⟩ = some (.int .i64 0) := HZ5.out.cell 3
          have df3 : w5.frozen? ⟨w.heap.size + 1 + 1 + 1, 3, none⟩ = false := HZ5.out.free 3
          have e0 : w5.drew.cell? ⟨w.heap.size + 1 + 1 + 1, 0, none⟩ = some (.int .i64 0) := d0
          have ef0 : w5.drew.frozen? ⟨w.heap.size + 1 + 1 + 1, 0, none⟩ = false := df0
          have e1 : w5.drew.cell? ⟨w.heap.size + 1 + 1 + 1, 1, none⟩ = some (.slice none 0 0) := d1
          have ef1 : w5.drew.frozen? ⟨w.heap.size + 1 + 1 + 1, 1, none⟩ = false := df1
          have e2 : w5.drew.cell? ⟨w.heap.size + 1 + 1 + 1, 2, none⟩ = some (.slice none 0 0) := d2
          have ef2 : w5.drew.frozen? ⟨w.heap.size + 1 + 1 + 1, 2, none⟩ = false := df2
          have e3 : w5.drew.cell? ⟨w.heap.size + 1 + 1 + 1, 3, none⟩ = some (.int .i64 0) := d3
          have ef3 : w5.drew.frozen? ⟨w.heap.size + 1 + 1 + 1, 3, none⟩ = false := df3
          have hu0 : w5.cell? ⟨0, 0, none⟩ = some (.iface 195 (.pointer (some ua))) := HU5.out.2.1
          have hud : w5.drew.cell? ⟨0, 0, none⟩ = some (.iface 195 (.pointer (some ua))) := hu0
          have HF := Lib.hid (typ_none (N := N) (u := (.iface 195 (.pointer (some ua)))) HB5.out HRN.out)
          have HG := Lib.hid (fun a b c d => typ_drew ((typ_none4 (N := N) (u := (.iface 195 (.pointer (some ua)))) (show w.heap.size ≤ w.heap.size + 1 + 1 + 1 by omega) HB5.out HRN.out a b c d)))
          go_wp2
          go_region
          go_wp2
          first | exact bodyPost_ret (v := .tuple #[.agg #[.int .i64 0, .slice none 0 0, .slice none 0 0, .int .i64 0], .iface 195 (.pointer (some ua))]) (by simp [results, Tryz.results119, go_sem, d0, d1, d2, d3, e0, e1, e2, e3]) rfl HF.out | exact bodyPost_ret (v := .tuple #[.agg #[.int .i64 0, .slice none 0 0, .slice none 0 0, .int .i64 0], .iface 195 (.pointer (some ua))]) (by simp [results, Tryz.results119, go_sem, d0, d1, d2, d3, e0, e1, e2, e3]) rfl (HG.out _ _ _ _)
        · rw [hw2] at HW2
          have HWW := Lib.hid hw2
          clear hw2
          go_wp2_with fail
          refine HW2.out.mono ?_
          rintro e w5 ⟨rfl, hb5⟩
          have HU5 := Lib.hid (HU4.out.below hb5)
          have HB5 := Lib.hid (HB4.out.trans (hb5.mono HB4.out.size))
          have HZ5 := Lib.hid (HZ4.out.below hb5 HZ4.out.lt)
          have HV6 := Lib.hid (HV4.out.up hb5)
          have HV7 := Lib.hid (HV5.out.up hb5)
          have HN6 := Lib.hid (HN4.out.below hb5 HN4.out.lt)
          have HN7 := Lib.hid (HN5.out.below hb5 HN5.out.lt)
          have HE := Lib.hid (implEqual_any t1 t2 _ _ w5 HV7.out.own HV6.out.own (by have := size_le_sz t1; have := HS1.out; omega))
          clear hb5 m0 m1 m2 m3
          have m0 : w5.cell? ⟨w2.heap.size, 0, none⟩ = some (.int .i64 t2.kind) := HN6.out.cell 0
          have m1 : w5.cell? ⟨w2.heap.size, 1, none⟩ = some (.slice L2 t2.labels.length lc2) := HN6.out.cell 1
          have m2 : w5.cell? ⟨w2.heap.size, 2, none⟩ = some (.slice A2 t2.args.length ac2) := HN6.out.cell 2
          have m3 : w5.cell? ⟨w2.heap.size, 3, none⟩ = some (.int .i64 k2) := HN6.out.cell 3
          have mm0 : w5.cell? ⟨w1.heap.size, 0, none⟩ = some (.int .i64 t1.kind) := HN7.out.cell 0
          have mm1 : w5.cell? ⟨w1.heap.size, 1, none⟩ = some (.slice L1 t1.labels.length lc1) := HN7.out.cell 1
          have mm2 : w5.cell? ⟨w1.heap.size, 2, none⟩ = some (.slice A1 t1.args.length ac1) := HN7.out.cell 2
          have mm3 : w5.cell? ⟨w1.heap.size, 3, none⟩ = some (.int .i64 k1) := HN7.out.cell 3
          cases he : eqTyB t1 t2
          · rw [he] at HE
            have HRN := Lib.hid (HR.out.trans (elseO_no4 HRS.out HRT.out he))
            clear he
            go_wp2_with fail
            refine HE.out.mono ?_
            rintro e w6 ⟨rfl, hb6⟩
            have HU6 := Lib.hid (HU5.out.below hb6)
            have HB6 := Lib.hid (HB5.out.trans (hb6.mono HB5.out.size))
            have HZ6 := Lib.hid (HZ5.out.below hb6 HZ5.out.lt)
            clear hb6 m0 m1 m2 m3 mm0 mm1 mm2 mm3
            have d0 : w6.cell? ⟨w.heap.size + 1 + 1 + 1, 0, none⟩ = some (.int .i64 0) := HZ6.out.cell 0
            have df0 : w6.frozen? ⟨w.heap.size + 1 + 1 + 1, 0, none⟩ = false := HZ6.out.free 0
            have d1 : w6.cell? ⟨w.heap.size + 1 + 1 + 1, 1, none⟩ = some (.slice none 0 0) := HZ6.out.cell 1
            have df1 : w6.frozen? ⟨w.heap.size + 1 + 1 + 1, 1, none⟩ = false := HZ6.out.free 1
            have d2 : w6.cell? ⟨w.heap.size + 1 + 1 + 1, 2, none⟩ = some (.slice none 0 0) := HZ6.out.cell 2
            have df2 : w6.frozen? ⟨w.heap.size + 1 + 1 + 1, 2, none⟩ = false := HZ6.out.free 2
            have d3 : w6.cell? ⟨w.heap.size + 1 + 1 + 1, 3, none⟩ = some (.int .i64 0) := HZ6.out.cell 3
            have df3 : w6.frozen? ⟨w.heap.size + 1 + 1 + 1, 3, none⟩ = false := HZ6.out.free 3
            have e0 : w6.drew.cell? ⟨w.heap.size + 1 + 1 + 1, 0, none⟩ = some (.int .i64 0) := d0
            have ef0 : w6.drew.frozen? ⟨w.heap.size + 1 + 1 + 1, 0, none⟩ = false := df0
            have e1 : w6.drew.cell? ⟨w.heap.size + 1 + 1 + 1, 1, none⟩ = some (.slice none 0 0) := d1
            have ef1 : w6.drew.frozen? ⟨w.heap.size + 1 + 1 + 1, 1, none⟩ = false := df1
            have e2 : w6.drew.cell? ⟨w.heap.size + 1 + 1 + 1, 2, none⟩ = some (.slice none 0 0) := d2
            have ef2 : w6.drew.frozen? ⟨w.heap.size + 1 + 1 + 1, 2, none⟩ = false := df2
            have e3 : w6.drew.cell? ⟨w.heap.size + 1 + 1 + 1, 3, none⟩ = some (.int .i64 0) := d3
            have ef3 : w6.drew.frozen? ⟨w.heap.size + 1 + 1 + 1, 3, none⟩ = false := df3
            have hu0 : w6.cell? ⟨0, 0, none⟩ = some (.iface 195 (.pointer (some ua))) := HU6.out.2.1
            have hud : w6.drew.cell? ⟨0, 0, none⟩ = some (.iface 195 (.pointer (some ua))) := hu0
            have HF := Lib.hid (typ_none (N := N) (u := (.iface 195 (.pointer (some ua)))) HB6.out HRN.out)
            have HG := Lib.hid (fun a b c d => typ_drew ((typ_none4 (N := N) (u := (.iface 195 (.pointer (some ua)))) (show w.heap.size ≤ w.heap.size + 1 + 1 + 1 by omega) HB6.out HRN.out a b c d)))
            go_wp2
            go_region
            go_wp2
            first | exact bodyPost_ret (v := .tuple #[.agg #[.int .i64 0, .slice none 0 0, .slice none 0 0, .int .i64 0], .iface 195 (.pointer (some ua))]) (by simp [results, Tryz.results119, go_sem, d0, d1, d2, d3, e0, e1, e2, e3]) rfl HF.out | exact bodyPost_ret (v := .tuple #[.agg #[.int .i64 0, .slice none 0 0, .slice none 0 0, .int .i64 0], .iface 195 (.pointer (some ua))]) (by simp [results, Tryz.results119, go_sem, d0, d1, d2, d3, e0, e1, e2, e3]) rfl (HG.out _ _ _ _)
          · rw [he] at HE
            have HRY := Lib.hid (HR.out.trans (elseO_yes HRS.out HRT.out HW1.out HWW.out he))
            clear he
            go_wp2_with fail
            refine HE.out.mono ?_
            rintro e w6 ⟨rfl, hb6⟩
            have HU6 := Lib.hid (HU5.out.below hb6)
            have HB6 := Lib.hid (HB5.out.trans (hb6.mono HB5.out.size))
            have HZ6 := Lib.hid (HZ5.out.below hb6 HZ5.out.lt)
            have HV8 := Lib.hid (HV7.out.up hb6)
            have HN8 := Lib.hid (HN7.out.below hb6 HN7.out.lt)
            clear hb6 m0 m1 m2 m3 mm0 mm1 mm2 mm3
            have HF := Lib.hid (fun a b c d => typ_fin (r := r) (u := (.iface 195 (.pointer (some ua)))) (kd := 4) (show w.heap.size ≤ w.heap.size + 1 + 1 + 1 by omega) HB6.out HV8.out HS1.out (.inr ⟨HRY.out, rfl⟩) a b c d)
            have d0 : w6.cell? ⟨w.heap.size + 1 + 1 + 1, 0, none⟩ = some (.int .i64 0) := HZ6.out.cell 0
            have df0 : w6.frozen? ⟨w.heap.size + 1 + 1 + 1, 0, none⟩ = false := HZ6.out.free 0
            have d1 : w6.cell? ⟨w.heap.size + 1 + 1 + 1, 1, none⟩ = some (.slice none 0 0) := HZ6.out.cell 1
            have df1 : w6.frozen? ⟨w.heap.size + 1 + 1 + 1, 1, none⟩ = false := HZ6.out.free 1
            have d2 : w6.cell? ⟨w.heap.size + 1 + 1 + 1, 2, none⟩ = some (.slice none 0 0) := HZ6.out.cell 2
            have df2 : w6.frozen? ⟨w.heap.size + 1 + 1 + 1, 2, none⟩ = false := HZ6.out.free 2
            have d3 : w6.cell? ⟨w.heap.size + 1 + 1 + 1, 3, none⟩ = some (.int .i64 0) := HZ6.out.cell 3
            have df3 : w6.frozen? ⟨w.heap.size + 1 + 1 + 1, 3, none⟩ = false := HZ6.out.free 3
            have m0 : w6.cell? ⟨w1.heap.size, 0, none⟩ = some (.int .i64 t1.kind) := HN8.out.cell 0
            have m1 : w6.cell? ⟨w1.heap.size, 1, none⟩ = some (.slice L1 t1.labels.length lc1) := HN8.out.cell 1
            have m2 : w6.cell? ⟨w1.heap.size, 2, none⟩ = some (.slice A1 t1.args.length ac1) := HN8.out.cell 2
            have m3 : w6.cell? ⟨w1.heap.size, 3, none⟩ = some (.int .i64 k1) := HN8.out.cell 3
            go_wp2
            exact bodyPost_ret (v := .tuple #[.agg #[.int .i64 t1.kind, .slice L1 t1.labels.length lc1, .slice A1 t1.args.length ac1, .int .i64 4], .nilIface]) (by simp [results, Tryz.results119, go_sem, d0, d1, d2, d3]) rfl (HF.out _ _ _ _)

end Go.Proofs.YthdfidhijmcbdaaGreatDoor
end
