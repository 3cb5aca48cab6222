/- Types made of types: a list of one part, a record of one field; trees that keep clear of some blocks. -/
import Derived.Test.YthdfidhijmcbdaaGreatDoorOType
import Derived.Test.YthdfidhijmcbdaaGreatDoorImplSize
namespace Go.Proofs.YthdfidhijmcbdaaGreatDoor
set_option maxRecDepth 100000
open Go.RowKit

theorem tyRow_one {W : World} {g : Nat} {a b c : Value} (hw : Whole1 W g 27 #[a, b, c]) : ElemRow 3 27 W g 1 (fun _ => .agg #[a, b, c]) := by
  refine ⟨_, hw, fun i hi j hj => ?_⟩
  obtain rfl : i = 0 := by omega
  have h4 : j = 0 ∨ j = 1 ∨ j = 2 := by omega
  rcases h4 with rfl | rfl | rfl <;> exact ⟨rfl, rfl⟩

/-- A tree in blocks of its own, none of which is of those named. -/
def OwnA (N : Nat → Prop) (w : World) (v : Value) (t : Ty) : Prop := ∃ S, TyIn w S v t ∧ ∀ b, S b → b < w.heap.size ∧ ¬ N b
theorem OwnA.own {N : Nat → Prop} {w : World} {v : Value} {t : Ty} (h : OwnA N w v t) : OwnT w v t := by
  obtain ⟨S, h1, h2⟩ := h
  exact ⟨S, h1, fun b hb => (h2 b hb).1⟩
theorem OwnT.any {w : World} {v : Value} {t : Ty} (h : OwnT w v t) : OwnA (fun _ => False) w v t := by
  obtain ⟨S, h1, h2⟩ := h
  exact ⟨S, h1, fun b hb => ⟨h2 b hb, id⟩⟩
theorem OwnA.up {N : Nat → Prop} {w w' : World} {v : Value} {t : Ty} (h : OwnA N w v t) (hb : Below w.heap.size w w') : OwnA N w' v t := by
  obtain ⟨S, h1, h2⟩ := h
  exact ⟨S, h1.keep fun b _ hl => hb.block b hl, fun b hb' => ⟨Nat.lt_of_lt_of_le (h2 b hb').1 hb.size, (h2 b hb').2⟩⟩
theorem OwnA.less {N N' : Nat → Prop} {w : World} {v : Value} {t : Ty} (h : OwnA N w v t) (hN : ∀ b, N' b → N b) : OwnA N' w v t := by
  obtain ⟨S, h1, h2⟩ := h
  exact ⟨S, h1, fun b hb => ⟨(h2 b hb).1, fun hn => (h2 b hb).2 (hN b hn)⟩⟩
/-- Blocks that are not there yet are kept clear of. -/
theorem OwnA.late {N : Nat → Prop} {w : World} {v : Value} {t : Ty} (h : OwnA N w v t) (z : Nat) (hz : w.heap.size ≤ z) : OwnA (fun b => N b ∨ b = z) w v t := by
  obtain ⟨S, h1, h2⟩ := h
  exact ⟨S, h1, fun b hb => ⟨(h2 b hb).1, fun hn => hn.elim (h2 b hb).2 fun e => by have := (h2 b hb).1; omega⟩⟩
theorem OwnA.of_in {N : Nat → Prop} {w : World} {lo : Nat} {v : Value} {t : Ty} (h : TyIn w (Span lo w.heap.size) v t) (hN : ∀ b, N b → b < lo) : OwnA N w v t :=
  ⟨_, h, fun b hb => ⟨hb.2, fun hn => by have := hN b hn; have := hb.1; omega⟩⟩
theorem OwnA.open {N : Nat → Prop} {w : World} {v : Value} {t : Ty} (h : OwnA N w v t) : ∃ L lc A ac, v = .agg #[.int .i64 t.kind, .slice L t.labels.length lc, .slice A t.args.length ac] := by
  obtain ⟨L, lc, A, ac, hv, _⟩ := h.own.open
  exact ⟨L, lc, A, ac, hv⟩
/-- A part. -/
theorem OwnA.elem {N : Nat → Prop} {w : World} {a : Value} {L A : Option Addr} {n lc m ac : Nat} {t : Ty} (h : OwnA N w (.agg #[a, .slice L n lc, .slice A m ac]) t) (i : Nat) (hi : i < t.args.length) :
    ∃ g L' lc' A' ac', A = some ⟨g, 0, none⟩ ∧ g < w.heap.size ∧ w.cell? ⟨g, i * 3, none⟩ = some (.int .i64 t.args[i].kind) ∧ w.cell? ⟨g, i * 3 + 1, none⟩ = some (.slice L' t.args[i].labels.length lc') ∧
      w.cell? ⟨g, i * 3 + 2, none⟩ = some (.slice A' t.args[i].args.length ac') ∧ OwnA N w (.agg #[.int .i64 t.args[i].kind, .slice L' t.args[i].labels.length lc', .slice A' t.args[i].args.length ac']) t.args[i] := by
  obtain ⟨S, h1, hS⟩ := h
  obtain ⟨L0, lc0, A0, ac0, gl, hveq, _, _, _, ha⟩ := h1.open
  simp only [Value.agg.injEq, Array.mk.injEq, List.cons.injEq, Value.slice.injEq, and_true] at hveq
  obtain ⟨_, _, rfl, _, _⟩ := hveq
  obtain ⟨_, ga, vs, Ss, hes, hsub, _, hks⟩ := ha
  rcases hes with hes | ⟨rfl, h5, h6⟩
  · rw [hes] at hi
    exact absurd hi (by simp)
  · obtain ⟨L', lc', A', ac', hv⟩ := (OwnA.open (N := N) ⟨_, hks i hi, fun b hb => hS b (hsub i hi b hb).1.1⟩)
    have e0 := h6.cell i 0 hi (by omega)
    have e1 := h6.cell i 1 hi (by omega)
    have e2 := h6.cell i 2 hi (by omega)
    rw [hv] at e0 e1 e2
    have hk := hks i hi
    rw [hv] at hk
    exact ⟨ga, L', lc', A', ac', rfl, (hS _ h5.1).1, e0, e1, e2, _, hk, fun b hb => hS b (hsub i hi b hb).1.1⟩

/-- A list of one part that lies there already. -/
theorem list_own {N : Nat → Prop} {w W : World} {g ac : Nat} {k : Int} {a b c : Value} {t : Ty} (h : OwnA N w (.agg #[a, b, c]) t) (hN : ∀ q, N q → q < w.heap.size) (hb : Below w.heap.size w W) (hg : w.heap.size ≤ g) (hw : Whole1 W g 27 #[a, b, c]) :
    OwnA N W (.agg #[.int .i64 k, .slice none 0 0, .slice (some ⟨g, 0, none⟩) 1 ac]) (.mk k [] [t]) := by
  obtain ⟨S0, h3, h4⟩ := h
  have h5 : TyIn W S0 (.agg #[a, b, c]) t := h3.keep fun q hq hl => hb.block q hl
  refine ⟨fun q => S0 q ∨ q = g, ?_, fun q hq => ?_⟩
  · refine TyIn.mk (k := k) (ls := []) (ts := [t]) (g + 1) g (fun _ => .agg #[a, b, c]) (fun _ => S0) (Nat.zero_le _) (fun i hi => absurd hi (by simp)) (by simp [maxLen]) (.inl rfl) (.inr ⟨rfl, .inr rfl, tyRow_one hw⟩) (by omega) (fun i hi q hq => ⟨.inl hq, by have := (h4 q hq).1; omega, by have := (h4 q hq).1; omega⟩) (fun i j hi hj hij => absurd hij (by simp only [List.length_cons, List.length_nil] at hi hj; omega)) (fun i hi => ?_)
    obtain rfl : i = 0 := by simp only [List.length_cons, List.length_nil] at hi; omega
    exact h5
  · rcases hq with hq | rfl
    · exact ⟨Nat.lt_of_lt_of_le (h4 q hq).1 hb.size, (h4 q hq).2⟩
    · exact ⟨hw.lt, fun hn => by have := hN _ hn; omega⟩

/-- A record of one field that lies there already. -/
theorem wrap_own {N : Nat → Prop} {w W : World} {gl ga lc ac : Nat} {k : Int} {nm : ByteArray} {a b c : Value} {t : Ty} (h : OwnA N w (.agg #[a, b, c]) t) (hN : ∀ q, N q → q < w.heap.size) (hb : Below w.heap.size w W) (hl : w.heap.size ≤ gl) (hg : w.heap.size ≤ ga) (hne : gl ≠ ga) (hnm : nm.size ≤ maxLen)
    (hwl : Whole1 W gl 9 #[.string nm]) (hw : Whole1 W ga 27 #[a, b, c]) :
    OwnA N W (.agg #[.int .i64 k, .slice (some ⟨gl, 0, none⟩) 1 lc, .slice (some ⟨ga, 0, none⟩) 1 ac]) (.mk k [nm] [t]) := by
  obtain ⟨S0, h3, h4⟩ := h
  have h5 : TyIn W S0 (.agg #[a, b, c]) t := h3.keep fun q hq hl => hb.block q hl
  refine ⟨fun q => S0 q ∨ q = ga ∨ q = gl, ?_, fun q hq => ?_⟩
  · refine TyIn.mk (k := k) (ls := [nm]) (ts := [t]) gl ga (fun _ => .agg #[a, b, c]) (fun _ => S0) (by simp [maxLen]) (fun i hi => ?_) (by simp [maxLen]) (.inr ⟨rfl, .inr (.inr rfl), RowStrs.of_whole hwl⟩) (.inr ⟨rfl, .inr (.inl rfl), tyRow_one hw⟩) hne (fun i hi q hq => ⟨.inl hq, by have := (h4 q hq).1; omega, by have := (h4 q hq).1; omega⟩) (fun i j hi hj hij => absurd hij (by simp only [List.length_cons, List.length_nil] at hi hj; omega)) (fun i hi => ?_)
    · obtain rfl : i = 0 := by simp only [List.length_cons, List.length_nil] at hi; omega
      exact hnm
    · obtain rfl : i = 0 := by simp only [List.length_cons, List.length_nil] at hi; omega
      exact h5
  · rcases hq with hq | rfl | rfl
    · exact ⟨Nat.lt_of_lt_of_le (h4 q hq).1 hb.size, (h4 q hq).2⟩
    · exact ⟨hw.lt, fun hn => by have := hN _ hn; omega⟩
    · exact ⟨hwl.lt, fun hn => by have := hN _ hn; omega⟩

def noTy : Ty := .mk 0 [] []
theorem noTy_own (N : Nat → Prop) (w : World) : OwnA N w (.agg #[.int .i64 0, .slice none 0 0, .slice none 0 0]) noTy :=
  ⟨fun _ => False, TyIn.mk (k := 0) (ls := []) (ts := []) 0 1 (fun _ => .bool false) (fun _ _ => False) (Nat.zero_le _) (fun i h => absurd h (by simp)) (Nat.zero_le _) (.inl rfl) (.inl rfl) (by omega) (fun i hi => absurd hi (by simp)) (fun i _ hi => absurd hi (by simp)) (fun i hi => absurd hi (by simp)), fun _ h => h.elim⟩

/-- What is handed back: a type, a kind, and no error or the one that there is. -/
def TypPost (N : Nat → Prop) (u : Value) (r : Option (Ty × Int)) (w : World) (e : Ending) (w' : World) : Prop :=
  ∃ L lc A ac t kd x, e = .returned (.tuple #[.agg #[.int .i64 t.kind, .slice L t.labels.length lc, .slice A t.args.length ac, .int .i64 kd], x]) ∧ OwnA N w' (.agg #[.int .i64 t.kind, .slice L t.labels.length lc, .slice A t.args.length ac]) t ∧ Below w.heap.size w w' ∧ szTy t ≤ 2000 ∧ ((r = none ∧ x = u) ∨ (r = some (t, kd) ∧ x = .nilIface))

theorem set4_heap (W : World) (z q : Nat) (hq : q ≠ z) (a b c d : Value) : ((((W.setCell ⟨z, 0, none⟩ a).setCell ⟨z, 1, none⟩ b).setCell ⟨z, 2, none⟩ c).setCell ⟨z, 3, none⟩ d).heap[q]? = W.heap[q]? := by
  rw [Below.heap_setCell _ _ _ _ hq, Below.heap_setCell _ _ _ _ hq, Below.heap_setCell _ _ _ _ hq, Below.heap_setCell _ _ _ _ hq]
theorem OwnA.set {N : Nat → Prop} {W : World} {z : Nat} {v : Value} {t : Ty} (h : OwnA (fun b => N b ∨ b = z) W v t) (a b c d : Value) : OwnA N ((((W.setCell ⟨z, 0, none⟩ a).setCell ⟨z, 1, none⟩ b).setCell ⟨z, 2, none⟩ c).setCell ⟨z, 3, none⟩ d) v t := by
  obtain ⟨S, h1, h2⟩ := h
  refine ⟨S, h1.keep fun q hq _ => set4_heap W z q (fun e => (h2 q hq).2 (.inr e)) a b c d, fun q hq => ⟨?_, fun hn => (h2 q hq).2 (.inl hn)⟩⟩
  have := (h2 q hq).1
  simpa [World.setCell] using this
theorem set4_below {w W : World} {z : Nat} (hz : w.heap.size ≤ z) (hb : Below w.heap.size w W) (a b c d : Value) : Below w.heap.size w ((((W.setCell ⟨z, 0, none⟩ a).setCell ⟨z, 1, none⟩ b).setCell ⟨z, 2, none⟩ c).setCell ⟨z, 3, none⟩ d) :=
  (((hb.setCell (p := ⟨z, 0, none⟩) hz _).setCell (p := ⟨z, 1, none⟩) hz _).setCell (p := ⟨z, 2, none⟩) hz _).setCell (p := ⟨z, 3, none⟩) hz _
theorem OwnA.drew {N : Nat → Prop} {W : World} {v : Value} {t : Ty} (h : OwnA N W v t) : OwnA N W.drew v t := h.up (Below.refl _ _).drew

/-- The end: the struct is laid in box z, then handed back. -/
theorem typ_fin {N : Nat → Prop} {u : Value} {r : Option (Ty × Int)} {w W : World} {z lc ac : Nat} {L A : Option Addr} {x : Value} {t : Ty} {kd : Int} (hz : w.heap.size ≤ z) (hb : Below w.heap.size w W) (hv : OwnA (fun b => N b ∨ b = z) W (.agg #[.int .i64 t.kind, .slice L t.labels.length lc, .slice A t.args.length ac]) t) (hs : szTy t ≤ 2000) (ho : (r = none ∧ x = u) ∨ (r = some (t, kd) ∧ x = .nilIface)) (a b c d : Value) :
    TypPost N u r w (.returned (.tuple #[.agg #[.int .i64 t.kind, .slice L t.labels.length lc, .slice A t.args.length ac, .int .i64 kd], x])) ((((W.setCell ⟨z, 0, none⟩ a).setCell ⟨z, 1, none⟩ b).setCell ⟨z, 2, none⟩ c).setCell ⟨z, 3, none⟩ d) :=
  ⟨L, lc, A, ac, t, kd, x, rfl, hv.set a b c d, set4_below hz hb a b c d, hs, ho⟩
theorem typ_drew {N : Nat → Prop} {u : Value} {r : Option (Ty × Int)} {w W : World} {e : Ending} (h : TypPost N u r w e W) : TypPost N u r w e W.drew := by
  obtain ⟨L, lc, A, ac, t, kd, x, h1, h2, h3, h4, h5⟩ := h
  exact ⟨L, lc, A, ac, t, kd, x, h1, h2.drew, h3.drew, h4, h5⟩
/-- No type: the error. -/
theorem typ_none {N : Nat → Prop} {u : Value} {r : Option (Ty × Int)} {w W : World} (hb : Below w.heap.size w W) (hr : r = none) :
    TypPost N u r w (.returned (.tuple #[.agg #[.int .i64 0, .slice none 0 0, .slice none 0 0, .int .i64 0], u])) W.drew :=
  typ_drew ⟨none, 0, none, 0, noTy, 0, u, rfl, noTy_own _ _, hb, by simp [noTy, szTy_eq, Ty.labels, Ty.args, sumSizes, szTys], .inl ⟨hr, rfl⟩⟩
theorem typ_none4 {N : Nat → Prop} {u : Value} {r : Option (Ty × Int)} {w W : World} {z : Nat} (hz : w.heap.size ≤ z) (hb : Below w.heap.size w W) (hr : r = none) (a b c d : Value) :
    TypPost N u r w (.returned (.tuple #[.agg #[.int .i64 0, .slice none 0 0, .slice none 0 0, .int .i64 0], u])) ((((W.setCell ⟨z, 0, none⟩ a).setCell ⟨z, 1, none⟩ b).setCell ⟨z, 2, none⟩ c).setCell ⟨z, 3, none⟩ d) :=
  typ_fin (t := noTy) hz hb (noTy_own _ _) (by simp [noTy, szTy_eq, Ty.labels, Ty.args, sumSizes, szTys]) (.inl ⟨hr, rfl⟩) a b c d
theorem typ_none0 {N : Nat → Prop} {u : Value} {r : Option (Ty × Int)} {w W : World} (hb : Below w.heap.size w W) (hr : r = none) :
    TypPost N u r w (.returned (.tuple #[.agg #[.int .i64 0, .slice none 0 0, .slice none 0 0, .int .i64 0], u])) W :=
  ⟨none, 0, none, 0, noTy, 0, u, rfl, noTy_own _ _, hb, by simp [noTy, szTy_eq, Ty.labels, Ty.args, sumSizes, szTys], .inl ⟨hr, rfl⟩⟩

/-- The variable of the error. -/
def UnfitAt (w : World) (u : Value) : Prop := 0 < w.heap.size ∧ w.cell? ⟨0, 0, none⟩ = some u ∧ ∃ a, u = .iface 195 (.pointer (some a))
theorem UnfitAt.below {w w' : World} {u : Value} (h : UnfitAt w u) (hb : Below w.heap.size w w') : UnfitAt w' u := ⟨Nat.lt_of_lt_of_le h.1 hb.size, (hb.cell (p := ⟨0, 0, none⟩) h.1).trans h.2.1, h.2.2⟩

theorem boxes4 (w : World) (t1 t2 t3 t4 : TypeId) (a b c d : Array Value) :
    Below w.heap.size w ((((w.alloc (.cells a t1)).alloc (.cells b t2)).alloc (.cells c t3)).alloc (.cells d t4)) ∧ Whole1 ((((w.alloc (.cells a t1)).alloc (.cells b t2)).alloc (.cells c t3)).alloc (.cells d t4)) w.heap.size t1 a ∧
    Whole1 ((((w.alloc (.cells a t1)).alloc (.cells b t2)).alloc (.cells c t3)).alloc (.cells d t4)) (w.heap.size + 1) t2 b ∧ Whole1 ((((w.alloc (.cells a t1)).alloc (.cells b t2)).alloc (.cells c t3)).alloc (.cells d t4)) (w.heap.size + 1 + 1) t3 c ∧
    Whole1 ((((w.alloc (.cells a t1)).alloc (.cells b t2)).alloc (.cells c t3)).alloc (.cells d t4)) (w.heap.size + 1 + 1 + 1) t4 d := by
  obtain ⟨h1, h2, h3, h4⟩ := boxes2 w t1 t2 a b
  obtain ⟨g1, g2, g3, g4⟩ := boxes2 ((w.alloc (.cells a t1)).alloc (.cells b t2)) t3 t4 c d
  refine ⟨h1.trans (g1.mono h1.size), h2.below g1 h2.lt, h3.below g1 h3.lt, ?_, ?_⟩
  · have := g2
    rwa [h4] at this
  · have := g3
    rwa [h4] at this
theorem typ_far {W : World} {g b i : Nat} (x y z u v : Value) (h : W.cell? ⟨b, i, none⟩ = some v) (hne : g ≠ b) : ((((W.setCell ⟨g, 0, none⟩ x).setCell ⟨g, 1, none⟩ y).setCell ⟨g, 2, none⟩ z).setCell ⟨g, 3, none⟩ u).cell? ⟨b, i, none⟩ = some v := by
  have hh := set4_heap W g b (Ne.symm hne) x y z u
  simp only [World.cell?] at h ⊢
  rw [hh]
  exact h

/-- The box of the struct that is handed back. -/
theorem boxesT (w : World) (t1 t4 : TypeId) (a d : Array Value) :
    Below w.heap.size w ((w.alloc (.cells a t1)).alloc (.cells d t4)) ∧ Whole1 ((w.alloc (.cells a t1)).alloc (.cells d t4)) w.heap.size t1 a ∧ Whole1 ((w.alloc (.cells a t1)).alloc (.cells d t4)) (w.heap.size + 1) t4 d := by
  obtain ⟨h1, h2, h3, _⟩ := boxes2 w t1 t4 a d
  exact ⟨h1, h2, h3⟩

end Go.Proofs.YthdfidhijmcbdaaGreatDoor
