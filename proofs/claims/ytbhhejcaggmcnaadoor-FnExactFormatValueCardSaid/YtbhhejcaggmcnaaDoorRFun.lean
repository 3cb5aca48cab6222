/- A range over a function whose iterator may turn blocks of its own, outermost: the law for the caller. Free of the program. -/
import Derived.Test.YtbhhejcaggmcnaaDoorProg
import Derived.RangeFuncNested
import Derived.RangeFuncBox
namespace Go.Proofs.YtbhhejcaggmcnaaDoor
open Go Go.RowKit

/-- Nothing has turned but blocks of X; there are new ones. -/
structure Turn (X : Nat → Prop) (w w' : World) : Prop where
  os : w'.os = w.os
  tape : w'.tape = w.tape
  output : w'.output = w.output
  size : w.heap.size ≤ w'.heap.size
  block : ∀ i, i < w.heap.size → ¬ X i → w'.heap[i]? = w.heap[i]?
theorem Turn.refl (X : Nat → Prop) (w : World) : Turn X w w := ⟨rfl, rfl, rfl, Nat.le_refl _, fun _ _ _ => rfl⟩
theorem Turn.trans {X : Nat → Prop} {a b c : World} (h : Turn X a b) (k : Turn X b c) : Turn X a c :=
  ⟨k.os.trans h.os, k.tape.trans h.tape, k.output.trans h.output, Nat.le_trans h.size k.size, fun i hi hx => (k.block i (Nat.lt_of_lt_of_le hi h.size) hx).trans (h.block i hi hx)⟩
theorem Turn.of_below {X : Nat → Prop} {w w' : World} (h : Below w.heap.size w w') : Turn X w w' := ⟨h.os, h.tape, h.output, h.size, fun i hi _ => h.block i hi⟩
theorem Turn.of_grown {X : Nat → Prop} {w w' : World} {p : Nat} (h : w.grownBy w' (some p)) (hp : X p) : Turn X w w' :=
  ⟨h.os, h.tape, h.output, h.size, fun i hi hx => h.block i hi (fun e => hx (by cases e; exact hp))⟩
theorem Turn.drew {X : Nat → Prop} {a w : World} (h : Turn X a w) : Turn X a w.drew := ⟨h.os, h.tape, h.output, h.size, h.block⟩
theorem Turn.from_drew {X : Nat → Prop} {w w' : World} (h : Turn X w.drew w') : Turn X w w' := ⟨h.os, h.tape, h.output, h.size, h.block⟩
/-- Behind a step that keeps all below B, where what it may turn is new. -/
theorem Turn.below {X : Nat → Prop} {a b c : World} {B : Nat} (h : Turn X a b) (k : Below B b c) (hB : a.heap.size ≤ B) : Turn X a c :=
  ⟨k.os.trans h.os, k.tape.trans h.tape, k.output.trans h.output, Nat.le_trans h.size k.size, fun i hi hx => (k.block i (Nat.lt_of_lt_of_le hi hB)).trans (h.block i hi hx)⟩
theorem Turn.set {X : Nat → Prop} {a b : World} (h : Turn X a b) {p : Addr} (hp : a.heap.size ≤ p.block ∨ X p.block) (v : Value) : Turn X a (b.setCell p v) :=
  ⟨h.os, h.tape, h.output, by simpa [World.setCell] using h.size, fun i hi hx => (Below.heap_setCell _ _ _ _ (fun e => by
    subst e
    rcases hp with hp | hp
    · omega
    · exact hx hp)).trans (h.block i hi hx)⟩
theorem Turn.alloc {X : Nat → Prop} {a b : World} (h : Turn X a b) (o : Obj) : Turn X a (b.alloc o) :=
  ⟨h.os, h.tape, h.output, Nat.le_trans h.size (by simp), fun i hi hx => (Below.heap_alloc _ _ _ (Nat.lt_of_lt_of_le hi h.size)).trans (h.block i hi hx)⟩

/-- Only block l has turned; it may have. -/
def SameBut (l : Nat) (w w' : World) : Prop := w.grownBy w' (some l) ∧ w'.heap.size = w.heap.size
theorem SameBut.block {l i : Nat} {w w' : World} (h : SameBut l w w') (hi : i < w.heap.size) (hne : i ≠ l) : w'.heap[i]? = w.heap[i]? := h.1.block i hi (fun e => hne (by cases e; rfl))
theorem sameBut_put (w : World) (l : Nat) (o : Obj) : SameBut l w (w.putObj l o) := ⟨grownBy_putObj' w l o, by simp⟩
theorem SameBut.below {l B : Nat} {w w' : World} (h : SameBut l w w') (hB : B ≤ l) (hw : B ≤ w.heap.size) : Below B w w' :=
  ⟨h.1.os, h.1.tape, h.1.output, h.1.size, fun k hk => h.block (Nat.lt_of_lt_of_le hk hw) (by omega)⟩

/-- What the body's walk keeps. -/
structure Kept (n0 D l : Nat) (B C : World) : Prop where
  defers : C.heap[D]? = B.heap[D]?
  loop : C.heap[l]? = B.heap[l]?
  below : Below n0 B C
theorem Kept.refl (n0 D l : Nat) (B : World) : Kept n0 D l B B := ⟨rfl, rfl, Below.refl _ _⟩
theorem Kept.trans {n0 D l : Nat} {a b c : World} (h : Kept n0 D l a b) (k : Kept n0 D l b c) : Kept n0 D l a c := ⟨k.defers.trans h.defers, k.loop.trans h.loop, h.below.trans k.below⟩
/-- How the body of a round may be left: off its end, or by a return. -/
def roundLeft (n0 D l : Nat) (B : World) (G Gx : World → Prop) : Exit → Act → World → Prop
  | .normal, _, C => Kept n0 D l B C ∧ G C
  | .ret, _, C => Kept n0 D l B C ∧ Gx C
  | _, _, _ => False

variable {F : Fence} {n : Nat} {P : Program} {α : Type}
/-- The contract of an iterator that turns blocks of X alone; Px: what it says of what it hands over; S, Sp: what stands in the end. -/
def SeqTurn (F : Fence) (n : Nat) (P : Program) (gf : Nat) (lb : Array Value) (encs : α → Array Value) (X : Nat → Prop) (Px : List α → World → α → World → Prop) (S Sp : List α → World → Prop) (w : World) : Prop :=
  ∀ (l : Nat) (J Jx : List α → World → Prop) (W : World), Below w.heap.size w W →
    (∀ pre x A B, J pre A → Turn X A B → Px pre A x B → YieldAt F (n - 1) P l (encs x) B fun e C =>
      (e = .returned (.bool true) ∧ J (pre ++ [x]) C ∧ Below w.heap.size B C) ∨ (e = .returned (.bool false) ∧ Jx (pre ++ [x]) C ∧ Below w.heap.size B C)) →
    J [] W →
    CallsIn F n P gf (#[.func (.yield l) #[] #[]] ++ lb) W fun e C => (∃ v, e = .returned v) ∧ ((∃ xs A, J xs A ∧ Turn X A C ∧ S xs C) ∨ (∃ pre A, Jx pre A ∧ Turn X A C ∧ Sp pre C))

theorem rangeFunc_turn {g : Operand} {ps : Array Tmp} {assign body : Code} {Q : Exit → Act → World → Prop} {a : Act} {w : World}
    (hro : F.round = none) (h1 : 1 ≤ n) {gf : Nat} {lb : Array Value} (hg : a.eval g = .func (.func gf) #[] lb) (hFg : F.fn gf) (eg : ∀ args w, (callFunc gf args).run P w = .ok (.enter gf args) w)
    {encs : α → Array Value} (hps : ∀ x, (encs x).size = ps.size) {X : Nat → Prop} (hX : ∀ i, X i → i < w.heap.size) {Px : List α → World → α → World → Prop} {S Sp : List α → World → Prop} {w0 : World} (hw0 : Below w0.heap.size w0 w)
    (hseq : SeqTurn F (n - 1) P gf lb encs X Px S Sp w0) (I Ix : List α → World → Prop)
    (hI : ∀ pre A C, I pre A → SameBut (w.heap.size + 1) A C → I pre C) (hIx : ∀ pre A C, Ix pre A → SameBut (w.heap.size + 1) A C → Ix pre C)
    (h0 : ∀ W, Below w.heap.size w W → W.heap.size = w.heap.size + 2 → I [] W)
    (hround : ∀ pre x A B, I pre A → Turn X A B → Px pre A x B → w.heap.size + 2 ≤ A.heap.size →
      assign.wpIn (F.inRound (w.heap.size + 1)) (n - 1 - 1) P (Exit.then (fun a₁ B2 => Kept w0.heap.size w.heap.size (w.heap.size + 1) B B2 ∧ ∀ B3, SameBut (w.heap.size + 1) B2 B3 →
        body.wpIn (F.inRound (w.heap.size + 1)) (n - 1 - 1) P (roundLeft w0.heap.size w.heap.size (w.heap.size + 1) B3 (I (pre ++ [x])) (Ix (pre ++ [x]))) a₁ B3) (fun _ _ _ => False))
        { tmps := (ps.zip (encs x)).foldl (fun t (p, v) => t.setIfInBounds p v) a.tmps, defers := [] } B)
    (hdone : ∀ xs A C C', I xs A → Turn X A C → S xs C → SameBut (w.heap.size + 1) C C' → w.heap.size + 2 ≤ A.heap.size → C'.heap[w.heap.size]? = some (.deferred (some [])) → Q .normal { a with defers := { target := .collected w.heap.size, args := #[] } :: a.defers } C')
    (hstop : ∀ pre A C C', Ix pre A → Turn X A C → Sp pre C → SameBut (w.heap.size + 1) C C' → w.heap.size + 2 ≤ A.heap.size → C'.heap[w.heap.size]? = some (.deferred (some [])) → Code.ret.wpIn F n P Q { a with defers := { target := .collected w.heap.size, args := #[] } :: a.defers } C') :
    (Code.rangeFunc g ps assign body).wpIn F n P Q a w := by
  refine wpIn_rangeFunc ?_
  intro fn hfn
  rw [hro]
  obtain ⟨D, hD⟩ : ∃ D, D = w.heap.size := ⟨_, rfl⟩
  obtain ⟨rec, hrec⟩ : ∃ rec : LoopState → Option Code → Loop, rec = fun st pe => { state := st, pending := pe, fn, tmps := a.tmps, params := ps, assign, body, defers := D } := ⟨_, rfl⟩
  obtain ⟨W1, hW1⟩ : ∃ W1, (w.alloc (.deferred (some []))).alloc (.loop (rec .ready none)) = W1 := ⟨_, rfl⟩
  have hs1 : W1.heap.size = D + 2 := by rw [← hW1, hD]; simp
  have hL1 : W1.heap[D + 1]? = some (.loop (rec .ready none)) := by
    have h := World.alloc_heap_new (w.alloc (.deferred (some []))) (.loop (rec .ready none))
    rw [World.size_alloc, hW1] at h
    rw [hD]
    exact h
  have hK1 : W1.heap[D]? = some (.deferred (some [])) := by
    rw [← hW1, hD]
    exact (Below.heap_alloc _ _ _ (by simp)).trans (World.alloc_heap_new w _)
  have hb1 : Below w.heap.size w W1 := by
    rw [← hW1]
    exact ((Below.refl _ w).alloc (Nat.le_refl _) _).alloc (by simp) _
  -- between two rounds
  refine ⟨D + 1, [{ target := .collected D, args := #[] }], W1, { target := .fn (.func gf) lb, args := #[.func (.yield (D + 1)) #[] #[]] }, W1, gf, #[.func (.yield (D + 1)) #[] #[]] ++ lb, W1, ?_, ?_, ?_, ?_, fun _ => h1, ?_⟩
  · rw [← hW1, hrec, hD]
    exact run_enterLoop_outer _ _ _ _ _
  · simp only [resolve, hg]
    simp [go_sem]
  · intro f' hf'
    simp [Target.leads] at hf'
    subst hf'
    exact hFg
  · simp [invoke, go_sem, eg]
  · refine (hseq (D + 1) (fun pre W => I pre W ∧ W.heap[D + 1]? = some (.loop (rec .ready none)) ∧ W.heap[D]? = some (.deferred (some [])) ∧ D + 2 ≤ W.heap.size)
      (fun pre W => Ix pre W ∧ W.heap[D + 1]? = some (.loop (rec .done (some .ret))) ∧ W.heap[D]? = some (.deferred (some [])) ∧ D + 2 ≤ W.heap.size)
      W1 (hw0.trans (hb1.mono hw0.size)) ?_ ⟨h0 W1 hb1 (by rw [hs1, hD]), hL1, hK1, by omega⟩).mono ?_
    · -- one round
      rintro pre x A B ⟨hi, hl, hk, hsz⟩ hT hP
      have hlB : B.heap[D + 1]? = some (.loop (rec .ready none)) := (hT.block _ (by omega) (fun hx => by have := hX _ hx; omega)).trans hl
      have hkB : B.heap[D]? = some (.deferred (some [])) := (hT.block _ (by omega) (fun hx => by have := hX _ hx; omega)).trans hk
      have hy := run_yield (P := P) (args := encs x) hlB (by rw [hrec]; exact hps x)
      rw [hrec] at hy
      have hr := hround pre x A B hi hT hP (by omega)
      rw [← hD] at hr
      refine ⟨fn, _, assign, body, hy, roundIn_of_wpIn hfn (wpIn_mono hr ?_)⟩
      rintro e a₁ B2 he
      cases e with
      | normal =>
        obtain ⟨hkept, hbody⟩ := he
        have hl2 := hkept.loop.trans hlB
        have hk2 := hkept.defers.trans hkB
        have hlt2 : D + 1 < B2.heap.size := (Array.getElem?_eq_some_iff.1 hl2).1
        refine ⟨_, run_beginRound hl2 (by rw [hrec]), ?_⟩
        have hb3 := hbody _ (sameBut_put B2 (D + 1) (.loop { rec .ready none with state := .busy }))
        have hl3 : (B2.putObj (D + 1) (.loop { rec .ready none with state := .busy })).heap[D + 1]? = some (.loop { rec .ready none with state := .busy }) := World.putObj_heap_same hlt2
        have hk3 : (B2.putObj (D + 1) (.loop { rec .ready none with state := .busy })).heap[D]? = some (.deferred (some [])) := (World.putObj_heap_other (by omega)).trans hk2
        have hw3 : Below w0.heap.size B2 (B2.putObj (D + 1) (.loop { rec .ready none with state := .busy })) := ((sameBut_put B2 (D + 1) _).below (B := D) (by omega) (by omega)).mono (by rw [hD]; exact hw0.size)
        refine wpIn_mono hb3 ?_
        rintro e a3 C hp
        have fin : ∀ (jump : Option Code), Kept w0.heap.size D (D + 1) (B2.putObj (D + 1) (.loop { rec .ready none with state := .busy })) C →
            (Instr.endRound (D + 1) jump).run P C = .ok (.bool jump.isNone) (C.putObj (D + 1) (.loop (rec (if jump.isNone then .ready else .done) jump))) ∧
            (C.putObj (D + 1) (.loop (rec (if jump.isNone then .ready else .done) jump))).heap[D + 1]? = some (.loop (rec (if jump.isNone then .ready else .done) jump)) ∧
            (C.putObj (D + 1) (.loop (rec (if jump.isNone then .ready else .done) jump))).heap[D]? = some (.deferred (some [])) ∧ D + 2 ≤ (C.putObj (D + 1) (.loop (rec (if jump.isNone then .ready else .done) jump))).heap.size ∧
            Below w0.heap.size B (C.putObj (D + 1) (.loop (rec (if jump.isNone then .ready else .done) jump))) := fun jump hkc => by
          have hlc := hkc.loop.trans hl3
          have hltc : D + 1 < C.heap.size := (Array.getElem?_eq_some_iff.1 hlc).1
          have hend := run_endRound (P := P) jump hlc
          rw [hrec] at hend
          refine ⟨?_, World.putObj_heap_same hltc, (World.putObj_heap_other (by omega)).trans (hkc.defers.trans hk3), by simp; omega, ?_⟩
          · rw [hrec]
            exact hend
          · have q0 : Below w0.heap.size B B2 := hkept.below
            have q1 : Below w0.heap.size (B2.putObj (D + 1) (.loop { rec .ready none with state := .busy })) C := hkc.below
            have q2 : Below w0.heap.size C (C.putObj (D + 1) (.loop (rec (if jump.isNone then .ready else .done) jump))) := ((sameBut_put C (D + 1) _).below (B := D) (by omega) (by omega)).mono (by rw [hD]; exact hw0.size)
            exact ((q0.trans hw3).trans q1).trans q2
        cases e with
        | normal =>
          obtain ⟨hkc, hic⟩ := hp
          obtain ⟨f1, f2, f3, f4, f5⟩ := fin none hkc
          exact ⟨_, _, f1, .inl ⟨rfl, ⟨hI _ _ _ hic (by rw [← hD]; exact sameBut_put _ _ _), f2, f3, f4⟩, f5⟩⟩
        | ret =>
          obtain ⟨hkc, hic⟩ := hp
          obtain ⟨f1, f2, f3, f4, f5⟩ := fin (some .ret) hkc
          exact ⟨_, _, f1, .inr ⟨rfl, ⟨hIx _ _ _ hic (by rw [← hD]; exact sameBut_put _ _ _), f2, f3, f4⟩, f5⟩⟩
        | exit id => exact hp.elim
        | goto t => exact hp.elim
        | panic ch => exact hp.elim
        | outgrown => exact hp.elim
      | exit id => exact he.elim
      | goto t => exact he.elim
      | ret => exact he.elim
      | panic ch => exact he.elim
      | outgrown => exact he.elim
    · -- behind the iterator
      rintro e C ⟨⟨v, rfl⟩, (⟨xs, A, ⟨hi, hl, hk, hsz⟩, hT, hS⟩ | ⟨pre, A, ⟨hi, hl, hk, hsz⟩, hT, hS⟩)⟩
      · have hlC : C.heap[D + 1]? = some (.loop (rec .ready none)) := (hT.block _ (by omega) (fun hx => by have := hX _ hx; omega)).trans hl
        have hkC : C.heap[D]? = some (.deferred (some [])) := (hT.block _ (by omega) (fun hx => by have := hX _ hx; omega)).trans hk
        have hend := run_endLoop (P := P) hlC (by rw [hrec]; simp)
        refine ⟨none, _, by rw [hrec] at hend; exact hend, ?_⟩
        have hq := hdone xs A C _ hi hT hS (by rw [← hD]; exact sameBut_put C (D + 1) (.loop { state := .exhausted, pending := none, fn, tmps := a.tmps, params := ps, assign, body, defers := D })) (by omega) (by rw [← hD]; exact (World.putObj_heap_other (by omega)).trans hkC)
        rw [← hD] at hq
        exact hq
      · have hlC : C.heap[D + 1]? = some (.loop (rec .done (some .ret))) := (hT.block _ (by omega) (fun hx => by have := hX _ hx; omega)).trans hl
        have hkC : C.heap[D]? = some (.deferred (some [])) := (hT.block _ (by omega) (fun hx => by have := hX _ hx; omega)).trans hk
        have hend := run_endLoop (P := P) hlC (by rw [hrec]; simp)
        refine ⟨some .ret, _, by rw [hrec] at hend; exact hend, ?_⟩
        have hq := hstop pre A C _ hi hT hS (by rw [← hD]; exact sameBut_put C (D + 1) (.loop { state := .exhausted, pending := some .ret, fn, tmps := a.tmps, params := ps, assign, body, defers := D })) (by omega) (by rw [← hD]; exact (World.putObj_heap_other (by omega)).trans hkC)
        rw [← hD] at hq
        exact hq

end Go.Proofs.YtbhhejcaggmcnaaDoor
