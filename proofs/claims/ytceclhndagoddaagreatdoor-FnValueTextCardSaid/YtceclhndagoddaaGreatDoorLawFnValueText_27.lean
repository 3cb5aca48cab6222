/- Lemmas: RFun, Collect, ImplIsName. -/
import Derived.Test.YtceclhndagoddaaGreatDoorProg
import Derived.RangeFuncNested
import Derived.RangeFuncBox
import Derived.Test.YtceclhndagoddaaGreatDoorLawFnValueText_5
import Derived.RangeFuncCalls
import Derived.RangeFuncLeaves
import Derived.Shelf.Abstract
import Derived.Shelf.RegionOpen
import Derived.WalkKit
import Derived.OwnWalkIn
import Derived.TacticsInMore
import Derived.LoopNIn
import Derived.LoopIn
import Derived.Maps.AppendAt
import Derived.Shelf.LaysM
import Derived.Shelf.Strconv.Clone
import Derived.Test.YtceclhndagoddaaGreatDoorLawFnValueText_7
import Derived.Test.YtceclhndagoddaaGreatDoorLawFnValueText_3
import Derived.Laws.RangeAny

section
namespace Go.Proofs.YtceclhndagoddaaGreatDoor
open Go Go.RowKit

/-- Nothing has turned but blocks of X; there are new ones. -/
structure Turn (X : Nat → Prop) (w w' : World) : Prop where
  os : w'.os = w.os
  tape : w'.tape = w.tape
  output : w'.output = w.output
  size : w.heap.size ≤ w'.heap.size
  block : ∀ i, i < w.heap.size → ¬ X i → w'.heap[i]? = w.heap[i]?
theorem Turn.refl (X : Nat → Prop) (w : World) : Turn X w w := ⟨rfl, rfl, rfl, Nat.le_refl _, fun _ _ _ => rfl⟩
theorem Turn.trans {X : Nat → Prop} {a b c : World} (h : Turn X a b) (k : Turn X b c) : Turn X a c :=
  ⟨k.os.trans h.os, k.tape.trans h.tape, k.output.trans h.output, Nat.le_trans h.size k.size, fun i hi hx => (k.block i (Nat.lt_of_lt_of_le hi h.size) hx).trans (h.block i hi hx)⟩
theorem Turn.of_below {X : Nat → Prop} {w w' : World} (h : Below w.heap.size w w') : Turn X w w' := ⟨h.os, h.tape, h.output, h.size, fun i hi _ => h.block i hi⟩
theorem Turn.of_grown {X : Nat → Prop} {w w' : World} {p : Nat} (h : w.grownBy w' (some p)) (hp : X p) : Turn X w w' :=
  ⟨h.os, h.tape, h.output, h.size, fun i hi hx => h.block i hi (fun e => hx (by cases e; exact hp))⟩
theorem Turn.drew {X : Nat → Prop} {a w : World} (h : Turn X a w) : Turn X a w.drew := ⟨h.os, h.tape, h.output, h.size, h.block⟩
theorem Turn.from_drew {X : Nat → Prop} {w w' : World} (h : Turn X w.drew w') : Turn X w w' := ⟨h.os, h.tape, h.output, h.size, h.block⟩
/-- Behind a step that keeps all below B, where what it may turn is new. -/
theorem Turn.below {X : Nat → Prop} {a b c : World} {B : Nat} (h : Turn X a b) (k : Below B b c) (hB : a.heap.size ≤ B) : Turn X a c :=
  ⟨k.os.trans h.os, k.tape.trans h.tape, k.output.trans h.output, Nat.le_trans h.size k.size, fun i hi hx => (k.block i (Nat.lt_of_lt_of_le hi hB)).trans (h.block i hi hx)⟩
theorem Turn.set {X : Nat → Prop} {a b : World} (h : Turn X a b) {p : Addr} (hp : a.heap.size ≤ p.block ∨ X p.block) (v : Value) : Turn X a (b.setCell p v) :=
  ⟨h.os, h.tape, h.output, by simpa [World.setCell] using h.size, fun i hi hx => (Below.heap_setCell _ _ _ _ (fun e => by
    subst e
    rcases hp with hp | hp
    · omega
    · exact hx hp)).trans (h.block i hi hx)⟩
theorem Turn.alloc {X : Nat → Prop} {a b : World} (h : Turn X a b) (o : Obj) : Turn X a (b.alloc o) :=
  ⟨h.os, h.tape, h.output, Nat.le_trans h.size (by simp), fun i hi hx => (Below.heap_alloc _ _ _ (Nat.lt_of_lt_of_le hi h.size)).trans (h.block i hi hx)⟩

/-- Only block l has turned; it may have. -/
def SameBut (l : Nat) (w w' : World) : Prop := w.grownBy w' (some l) ∧ w'.heap.size = w.heap.size
theorem SameBut.block {l i : Nat} {w w' : World} (h : SameBut l w w') (hi : i < w.heap.size) (hne : i ≠ l) : w'.heap[i]? = w.heap[i]? := h.1.block i hi (fun e => hne (by cases e; rfl))
theorem sameBut_put (w : World) (l : Nat) (o : Obj) : SameBut l w (w.putObj l o) := ⟨grownBy_putObj' w l o, by simp⟩
theorem SameBut.below {l B : Nat} {w w' : World} (h : SameBut l w w') (hB : B ≤ l) (hw : B ≤ w.heap.size) : Below B w w' :=
  ⟨h.1.os, h.1.tape, h.1.output, h.1.size, fun k hk => h.block (Nat.lt_of_lt_of_le hk hw) (by omega)⟩

/-- What the body's walk keeps. -/
structure Kept (n0 D l : Nat) (B C : World) : Prop where
  defers : C.heap[D]? = B.heap[D]?
  loop : C.heap[l]? = B.heap[l]?
  below : Below n0 B C
theorem Kept.refl (n0 D l : Nat) (B : World) : Kept n0 D l B B := ⟨rfl, rfl, Below.refl _ _⟩
theorem Kept.trans {n0 D l : Nat} {a b c : World} (h : Kept n0 D l a b) (k : Kept n0 D l b c) : Kept n0 D l a c := ⟨k.defers.trans h.defers, k.loop.trans h.loop, h.below.trans k.below⟩
/-- How the body of a round may be left: off its end, or by a return. -/
def roundLeft (n0 D l : Nat) (B : World) (G Gx : World → Prop) : Exit → Act → World → Prop
  | .normal, _, C => Kept n0 D l B C ∧ G C
  | .ret, _, C => Kept n0 D l B C ∧ Gx C
  | _, _, _ => False

variable {F : Fence} {n : Nat} {P : Program} {α : Type}
/-- The contract of an iterator that turns blocks of X alone; Px: what it says of what it hands over; S, Sp: what stands in the end. -/
def SeqTurn (F : Fence) (n : Nat) (P : Program) (gf : Nat) (lb : Array Value) (encs : α → Array Value) (X : Nat → Prop) (Px : List α → World → α → World → Prop) (S Sp : List α → World → Prop) (w : World) : Prop :=
  ∀ (l : Nat) (J Jx : List α → World → Prop) (W : World), Below w.heap.size w W →
    (∀ pre x A B, J pre A → Turn X A B → Px pre A x B → YieldAt F (n - 1) P l (encs x) B fun e C =>
      (e = .returned (.bool true) ∧ J (pre ++ [x]) C ∧ Below w.heap.size B C) ∨ (e = .returned (.bool false) ∧ Jx (pre ++ [x]) C ∧ Below w.heap.size B C)) →
    J [] W →
    CallsIn F n P gf (#[.func (.yield l) #[] #[]] ++ lb) W fun e C => (∃ v, e = .returned v) ∧ ((∃ xs A, J xs A ∧ Turn X A C ∧ S xs C) ∨ (∃ pre A, Jx pre A ∧ Turn X A C ∧ Sp pre C))

theorem rangeFunc_turn {g : Operand} {ps : Array Tmp} {assign body : Code} {Q : Exit → Act → World → Prop} {a : Act} {w : World}
    (hro : F.round = none) (h1 : 1 ≤ n) {gf : Nat} {lb : Array Value} (hg : a.eval g = .func (.func gf) #[] lb) (hFg : F.fn gf) (eg : ∀ args w, (callFunc gf args).run P w = .ok (.enter gf args) w)
    {encs : α → Array Value} (hps : ∀ x, (encs x).size = ps.size) {X : Nat → Prop} (hX : ∀ i, X i → i < w.heap.size) {Px : List α → World → α → World → Prop} {S Sp : List α → World → Prop} {w0 : World} (hw0 : Below w0.heap.size w0 w)
    (hseq : SeqTurn F (n - 1) P gf lb encs X Px S Sp w0) (I Ix : List α → World → Prop)
    (hI : ∀ pre A C, I pre A → SameBut (w.heap.size + 1) A C → I pre C) (hIx : ∀ pre A C, Ix pre A → SameBut (w.heap.size + 1) A C → Ix pre C)
    (h0 : ∀ W, Below w.heap.size w W → W.heap.size = w.heap.size + 2 → I [] W)
    (hround : ∀ pre x A B, I pre A → Turn X A B → Px pre A x B → w.heap.size + 2 ≤ A.heap.size →
      assign.wpIn (F.inRound (w.heap.size + 1)) (n - 1 - 1) P (Exit.then (fun a₁ B2 => Kept w0.heap.size w.heap.size (w.heap.size + 1) B B2 ∧ ∀ B3, SameBut (w.heap.size + 1) B2 B3 →
        body.wpIn (F.inRound (w.heap.size + 1)) (n - 1 - 1) P (roundLeft w0.heap.size w.heap.size (w.heap.size + 1) B3 (I (pre ++ [x])) (Ix (pre ++ [x]))) a₁ B3) (fun _ _ _ => False))
        { tmps := (ps.zip (encs x)).foldl (fun t (p, v) => t.setIfInBounds p v) a.tmps, defers := [] } B)
    (hdone : ∀ xs A C C', I xs A → Turn X A C → S xs C → SameBut (w.heap.size + 1) C C' → w.heap.size + 2 ≤ A.heap.size → C'.heap[w.heap.size]? = some (.deferred (some [])) → Q .normal { a with defers := { target := .collected w.heap.size, args := #[] } :: a.defers } C')
    (hstop : ∀ pre A C C', Ix pre A → Turn X A C → Sp pre C → SameBut (w.heap.size + 1) C C' → w.heap.size + 2 ≤ A.heap.size → C'.heap[w.heap.size]? = some (.deferred (some [])) → Code.ret.wpIn F n P Q { a with defers := { target := .collected w.heap.size, args := #[] } :: a.defers } C') :
    (Code.rangeFunc g ps assign body).wpIn F n P Q a w := by
  refine wpIn_rangeFunc ?_
  intro fn hfn
  rw [hro]
  obtain ⟨D, hD⟩ : ∃ D, D = w.heap.size := ⟨_, rfl⟩
  obtain ⟨rec, hrec⟩ : ∃ rec : LoopState → Option Code → Loop, rec = fun st pe => { state := st, pending := pe, fn, tmps := a.tmps, params := ps, assign, body, defers := D } := ⟨_, rfl⟩
  obtain ⟨W1, hW1⟩ : ∃ W1, (w.alloc (.deferred (some []))).alloc (.loop (rec .ready none)) = W1 := ⟨_, rfl⟩
  have hs1 : W1.heap.size = D + 2 := by rw [← hW1, hD]; simp
  have hL1 : W1.heap[D + 1]? = some (.loop (rec .ready none)) := by
    have h := World.alloc_heap_new (w.alloc (.deferred (some []))) (.loop (rec .ready none))
    rw [World.size_alloc, hW1] at h
    rw [hD]
    exact h
  have hK1 : W1.heap[D]? = some (.deferred (some [])) := by
    rw [← hW1, hD]
    exact (Below.heap_alloc _ _ _ (by simp)).trans (World.alloc_heap_new w _)
  have hb1 : Below w.heap.size w W1 := by
    rw [← hW1]
    exact ((Below.refl _ w).alloc (Nat.le_refl _) _).alloc (by simp) _
  -- between two rounds
  refine ⟨D + 1, [{ target := .collected D, args := #[] }], W1, { target := .fn (.func gf) lb, args := #[.func (.yield (D + 1)) #[] #[]] }, W1, gf, #[.func (.yield (D + 1)) #[] #[]] ++ lb, W1, ?_, ?_, ?_, ?_, fun _ => h1, ?_⟩
  · rw [← hW1, hrec, hD]
    exact run_enterLoop_outer _ _ _ _ _
  · simp only [resolve, hg]
    simp [go_sem]
  · intro f' hf'
    simp [Target.leads] at hf'
    subst hf'
    exact hFg
  · simp [invoke, go_sem, eg]
  · refine (hseq (D + 1) (fun pre W => I pre W ∧ W.heap[D + 1]? = some (.loop (rec .ready none)) ∧ W.heap[D]? = some (.deferred (some [])) ∧ D + 2 ≤ W.heap.size)
      (fun pre W => Ix pre W ∧ W.heap[D + 1]? = some (.loop (rec .done (some .ret))) ∧ W.heap[D]? = some (.deferred (some [])) ∧ D + 2 ≤ W.heap.size)
      W1 (hw0.trans (hb1.mono hw0.size)) ?_ ⟨h0 W1 hb1 (by rw [hs1, hD]), hL1, hK1, by omega⟩).mono ?_
    · -- one round
      rintro pre x A B ⟨hi, hl, hk, hsz⟩ hT hP
      have hlB : B.heap[D + 1]? = some (.loop (rec .ready none)) := (hT.block _ (by omega) (fun hx => by have := hX _ hx; omega)).trans hl
      have hkB : B.heap[D]? = some (.deferred (some [])) := (hT.block _ (by omega) (fun hx => by have := hX _ hx; omega)).trans hk
      have hy := run_yield (P := P) (args := encs x) hlB (by rw [hrec]; exact hps x)
      rw [hrec] at hy
      have hr := hround pre x A B hi hT hP (by omega)
      rw [← hD] at hr
      refine ⟨fn, _, assign, body, hy, roundIn_of_wpIn hfn (wpIn_mono hr ?_)⟩
      rintro e a₁ B2 he
      cases e with
      | normal =>
        obtain ⟨hkept, hbody⟩ := he
        have hl2 := hkept.loop.trans hlB
        have hk2 := hkept.defers.trans hkB
        have hlt2 : D + 1 < B2.heap.size := (Array.getElem?_eq_some_iff.1 hl2).1
        refine ⟨_, run_beginRound hl2 (by rw [hrec]), ?_⟩
        have hb3 := hbody _ (sameBut_put B2 (D + 1) (.loop { rec .ready none with state := .busy }))
        have hl3 : (B2.putObj (D + 1) (.loop { rec .ready none with state := .busy })).heap[D + 1]? = some (.loop { rec .ready none with state := .busy }) := World.putObj_heap_same hlt2
        have hk3 : (B2.putObj (D + 1) (.loop { rec .ready none with state := .busy })).heap[D]? = some (.deferred (some [])) := (World.putObj_heap_other (by omega)).trans hk2
        have hw3 : Below w0.heap.size B2 (B2.putObj (D + 1) (.loop { rec .ready none with state := .busy })) := ((sameBut_put B2 (D + 1) _).below (B := D) (by omega) (by omega)).mono (by rw [hD]; exact hw0.size)
        refine wpIn_mono hb3 ?_
        rintro e a3 C hp
        have fin : ∀ (jump : Option Code), Kept w0.heap.size D (D + 1) (B2.putObj (D + 1) (.loop { rec .ready none with state := .busy })) C →
            (Instr.endRound (D + 1) jump).run P C = .ok (.bool jump.isNone) (C.putObj (D + 1) (.loop (rec (if jump.isNone then .ready else .done) jump))) ∧
            (C.putObj (D + 1) (.loop (rec (if jump.isNone then .ready else .done) jump))).heap[D + 1]? = some (.loop (rec (if jump.isNone then .ready else .done) jump)) ∧
            (C.putObj (D + 1) (.loop (rec (if jump.isNone then .ready else .done) jump))).heap[D]? = some (.deferred (some [])) ∧ D + 2 ≤ (C.putObj (D + 1) (.loop (rec (if jump.isNone then .ready else .done) jump))).heap.size ∧
            Below w0.heap.size B (C.putObj (D + 1) (.loop (rec (if jump.isNone then .ready else .done) jump))) := fun jump hkc => by
          have hlc := hkc.loop.trans hl3
          have hltc : D + 1 < C.heap.size := (Array.getElem?_eq_some_iff.1 hlc).1
          have hend := run_endRound (P := P) jump hlc
          rw [hrec] at hend
          refine ⟨?_, World.putObj_heap_same hltc, (World.putObj_heap_other (by omega)).trans (hkc.defers.trans hk3), by simp; omega, ?_⟩
          · rw [hrec]
            exact hend
          · have q0 : Below w0.heap.size B B2 := hkept.below
            have q1 : Below w0.heap.size (B2.putObj (D + 1) (.loop { rec .ready none with state := .busy })) C := hkc.below
            have q2 : Below w0.heap.size C (C.putObj (D + 1) (.loop (rec (if jump.isNone then .ready else .done) jump))) := ((sameBut_put C (D + 1) _).below (B := D) (by omega) (by omega)).mono (by rw [hD]; exact hw0.size)
            exact ((q0.trans hw3).trans q1).trans q2
        cases e with
        | normal =>
          obtain ⟨hkc, hic⟩ := hp
          obtain ⟨f1, f2, f3, f4, f5⟩ := fin none hkc
          exact ⟨_, _, f1, .inl ⟨rfl, ⟨hI _ _ _ hic (by rw [← hD]; exact sameBut_put _ _ _), f2, f3, f4⟩, f5⟩⟩
        | ret =>
          obtain ⟨hkc, hic⟩ := hp
          obtain ⟨f1, f2, f3, f4, f5⟩ := fin (some .ret) hkc
          exact ⟨_, _, f1, .inr ⟨rfl, ⟨hIx _ _ _ hic (by rw [← hD]; exact sameBut_put _ _ _), f2, f3, f4⟩, f5⟩⟩
        | exit id => exact hp.elim
        | goto t => exact hp.elim
        | panic ch => exact hp.elim
        | outgrown => exact hp.elim
      | exit id => exact he.elim
      | goto t => exact he.elim
      | ret => exact he.elim
      | panic ch => exact he.elim
      | outgrown => exact he.elim
    · -- behind the iterator
      rintro e C ⟨⟨v, rfl⟩, (⟨xs, A, ⟨hi, hl, hk, hsz⟩, hT, hS⟩ | ⟨pre, A, ⟨hi, hl, hk, hsz⟩, hT, hS⟩)⟩
      · have hlC : C.heap[D + 1]? = some (.loop (rec .ready none)) := (hT.block _ (by omega) (fun hx => by have := hX _ hx; omega)).trans hl
        have hkC : C.heap[D]? = some (.deferred (some [])) := (hT.block _ (by omega) (fun hx => by have := hX _ hx; omega)).trans hk
        have hend := run_endLoop (P := P) hlC (by rw [hrec]; simp)
        refine ⟨none, _, by rw [hrec] at hend; exact hend, ?_⟩
        have hq := hdone xs A C _ hi hT hS (by rw [← hD]; exact sameBut_put C (D + 1) (.loop { state := .exhausted, pending := none, fn, tmps := a.tmps, params := ps, assign, body, defers := D })) (by omega) (by rw [← hD]; exact (World.putObj_heap_other (by omega)).trans hkC)
        rw [← hD] at hq
        exact hq
      · have hlC : C.heap[D + 1]? = some (.loop (rec .done (some .ret))) := (hT.block _ (by omega) (fun hx => by have := hX _ hx; omega)).trans hl
        have hkC : C.heap[D]? = some (.deferred (some [])) := (hT.block _ (by omega) (fun hx => by have := hX _ hx; omega)).trans hk
        have hend := run_endLoop (P := P) hlC (by rw [hrec]; simp)
        refine ⟨some .ret, _, by rw [hrec] at hend; exact hend, ?_⟩
        have hq := hstop pre A C _ hi hT hS (by rw [← hD]; exact sameBut_put C (D + 1) (.loop { state := .exhausted, pending := some .ret, fn, tmps := a.tmps, params := ps, assign, body, defers := D })) (by omega) (by rw [← hD]; exact (World.putObj_heap_other (by omega)).trans hkC)
        rw [← hD] at hq
        exact hq

end Go.Proofs.YtceclhndagoddaaGreatDoor
end

section
namespace Go.Proofs.YtceclhndagoddaaGreatDoor
open Go Go.RowKit
attribute [local go_sem] Oper.semAt_some

def noBlock : Nat → Prop := fun _ => False
theorem Turn.to_below {w w' : World} (h : Turn noBlock w w') : Below w.heap.size w w' := ⟨h.os, h.tape, h.output, h.size, fun i hi => h.block i hi (fun x => x)⟩
/-- An iterator over strings; fewer than N have come. -/
abbrev SeqStrs (n gf : Nat) (lb : Array Value) (S : List ByteArray → World → Prop) (N : Nat) (w : World) : Prop :=
  SeqTurn Fence.wide n Tryz.prog gf lb (fun x : ByteArray => #[.string x]) noBlock (fun pre _ _ _ => pre.length < N) S (fun _ _ => True) w

set_option maxHeartbeats 2000000 in
set_option maxRecDepth 100000 in
theorem appendSeq_any (gf : Nat) (lb : Array Value) (eg : ∀ args w, (callFunc gf args).run Tryz.prog w = .ok (.enter gf args) w) (S : List ByteArray → World → Prop) (N : Nat) (hN : N ≤ 1000000) (w : World) (hS : ∀ xs C C', S xs C → Below w.heap.size C C' → S xs C')
    (hseq : SeqStrs 6 gf lb S N w) :
    CallsIn Fence.wide 7 Tryz.prog 90 #[.slice none 0 0, .func (.func gf) #[] lb] w fun e w' => ∃ v ss, e = .returned v ∧ S ss w' ∧ ss.length ≤ N ∧ w'.ownsRow w.heap.size 9 1 v ss.length (strVals ss) ∧ Below w.heap.size w w' := by
  obtain ⟨i0, hi, hz0, hz1, hz2⟩ := info_parts infoString
  have hbb := (Below.refl w.heap.size w).alloc (Nat.le_refl _) (.cells #[.slice none 0 0] 24)
  have hbx := Whole1.new w 24 #[.slice none 0 0]
  have hsz : (w.alloc (.cells #[.slice none 0 0] 24)).heap.size = w.heap.size + 1 := by simp
  refine callsIn_of_wp_marks Tryz.func90 rfl trivial ?_ rfl
  simp only [Tryz.ntmps90, List.size_toArray, List.length_cons, List.length_nil, Nat.reduceAdd, Nat.reduceSub, Array.replicate_succ, Array.replicate_zero, List.push_toArray, List.append_toArray, List.nil_append, List.cons_append]
  gi_wp2
  generalize w.alloc (.cells #[.slice none 0 0] 24) = W0 at *
  refine rangeFunc_turn rfl (by decide) (gf := gf) (lb := lb) rfl trivial eg (fun _ => rfl) (X := noBlock) (fun _ h => h.elim) (w0 := w) hbb hseq
    (fun pre W => (∃ v, Whole1 W w.heap.size 24 #[v] ∧ W.ownsRow (w.heap.size + 3) 9 1 v pre.length (strVals pre)) ∧ pre.length ≤ N ∧ Below w.heap.size w W)
    (fun _ _ => False) ?hI (fun _ _ _ h _ => h) ?h0 ?round ?done ?stop
  case hI =>
    rintro pre A C ⟨⟨v, h1, h2⟩, h3, h4⟩ hsb
    rw [hsz] at hsb
    exact ⟨⟨v, (hsb.block h1.lt (by omega)).trans h1, own_keep1 h2 (fun g hg => hsb.block (h2.lt g hg).2 (by have := (h2.lt g hg).1; omega))⟩, h3, h4.trans (hsb.below (by omega) h4.size)⟩
  case h0 =>
    intro W hW hWs
    exact ⟨⟨_, (hW.block _ (by omega)).trans hbx, World.ownsRow_nil _ _ _ 1⟩, Nat.zero_le _, hbb.trans (hW.mono (by omega))⟩
  case round =>
    rintro pre x A B ⟨⟨v, h1, h2⟩, h3, h4⟩ hT hlt hAs
    have hB := hT.to_below
    have h1' := h1.below hB h1.lt
    have h2' := own_keep1 (w' := B) h2 (fun g hg => hB.block g (h2.lt g hg).2)
    have h4' := h4.trans (hB.mono h4.size)
    have hBs := hB.size
    gi_wp2
    refine ⟨Kept.refl _ _ _ _, fun B3 hsb => ?_⟩
    rw [hsz] at hsb
    have h1 := (hsb.block h1'.lt (by omega)).trans h1'
    have h1 : Whole1 B3 w.heap.size 24 #[v] := h1
    have h2 := own_keep1 (w' := B3) h2' (fun g hg => hsb.block (h2'.lt g hg).2 (by have := (h2'.lt g hg).1; omega))
    have h4 := h4'.trans (hsb.below (by omega) h4'.size)
    have h5 : w.heap.size + 3 ≤ B3.heap.size := by have := hsb.2; omega
    have c0 : B3.cell? ⟨w.heap.size, 0, none⟩ = some v := h1.cell 0
    have f0 : B3.frozen? ⟨w.heap.size, 0, none⟩ = false := h1.free 0
    have HR := Lib.hid h2
    have HB := Lib.hid h4
    have HX := Lib.hid h1
    clear h1' h2' h4' hB hT h1 h2 h4
    gi_wp2_with (gi_at_builtin; refine wpListIn_append_own _ rfl (.tmp 8) (.tmp 10) _ rfl (w.heap.size + 3) 9 i0 (.string ⟨#[]⟩) 1 16 Tryz.underlying24 hi hz0 hz1 hz2 rfl (by decide) _ _ _ rfl (HR.out.alloc _) ⟨B3.heap.size, 0, none⟩ 1 1 [.string x] rfl rfl (cellNew B3 9 _) (by intro u hu; simp at hu; subst hu; rfl) (by unfold maxLen; omega) (by omega) (by simp; omega) ?_; intro v1 w4 hown1 hg1 _; obtain ⟨g', cap', rfl⟩ := ownsRow_succ hown1; have hlow := (fun q hq => (HR.out.lt q hq).1); have hb4 : Below (w.heap.size + 3) B3 w4 := ((Below.refl (w.heap.size + 3) B3).alloc h5 _).grown hg1 (by simp; omega) (fun q e => hlow q e); have hx4 := HX.out.below hb4 (by omega); have c4 : w4.cell? ⟨w.heap.size, 0, none⟩ = some v := hx4.cell 0; have f4 : w4.frozen? ⟨w.heap.size, 0, none⟩ = false := hx4.free 0)
    have hset : ∀ g, g ≠ w.heap.size → (w4.setCell ⟨w.heap.size, 0, none⟩ (.slice (some ⟨g', 0, none⟩) (pre.length + 1) cap')).heap[g]? = w4.heap[g]? := fun g hg => Below.heap_setCell _ _ _ _ hg
    have hb4s := hb4.size
    refine ⟨⟨(hset _ (by omega)).trans (hb4.block _ (by omega)), (hset _ (by omega)).trans (hb4.block _ (by omega)), ?_⟩, ⟨_, hx4.set 0 _, ?_⟩, by simp; omega, ?_⟩
    · exact (hb4.mono (B' := w.heap.size) (by omega)).setCell (p := ⟨w.heap.size, 0, none⟩) (Nat.le_refl _) _
    · rw [List.length_append, List.length_singleton, show strVals (pre ++ [x]) = strVals pre ++ [.string x] by simp [strVals]]
      exact own_keep1 hown1 (fun g hg => hset g (by have := (hown1.lt g hg).1; omega))
    · exact (HB.out.trans (hb4.mono (B' := w.heap.size) (by omega))).setCell (p := ⟨w.heap.size, 0, none⟩) (Nat.le_refl _) _
  case done =>
    rintro xs A C C' ⟨⟨v, h1, h2⟩, h3, h4⟩ hT hSx hsb hAs hK
    have hB := hT.to_below
    rw [hsz] at hsb
    have h1 : Whole1 C' w.heap.size 24 #[v] := (hsb.block (h1.below hB h1.lt).lt (by omega)).trans (h1.below hB h1.lt)
    have h2' := own_keep1 (w' := C) h2 (fun g hg => hB.block g (h2.lt g hg).2)
    have h2 := own_keep1 (w' := C') h2' (fun g hg => hsb.block (h2'.lt g hg).2 (by have := (h2'.lt g hg).1; omega))
    have h4' := h4.trans (hB.mono h4.size)
    have h4 := h4'.trans (hsb.below (by omega) h4'.size)
    have c0 : C'.cell? ⟨w.heap.size, 0, none⟩ = some v := h1.cell 0
    gi_wp2
    refine ⟨by simp, .inl ⟨_, _, rfl, run_takeDeferred hK, ?_⟩⟩
    have hput := sameBut_put C' W0.heap.size (.deferred none)
    have hb2 : Below w.heap.size C' (C'.putObj W0.heap.size (.deferred none)) := hput.below (by omega) h4.size
    refine ⟨_, results_tmp rfl _ _ _, v, xs, rfl, ?_, h3, ?_, ?_⟩
    · exact hS _ _ _ hSx ((hsb.below (by omega) h4'.size).trans hb2)
    · exact own_keep1 (own_base h2 (by omega)) (fun g hg => hput.block (h2.lt g hg).2 (by have := (h2.lt g hg).1; omega))
    · exact h4.trans hb2
  case stop =>
    rintro pre A C C' h
    exact h.elim

set_option maxHeartbeats 1000000 in
theorem collect_any (gf : Nat) (lb : Array Value) (eg : ∀ args w, (callFunc gf args).run Tryz.prog w = .ok (.enter gf args) w) (S : List ByteArray → World → Prop) (N : Nat) (hN : N ≤ 1000000) (w : World) (hS : ∀ xs C C', S xs C → Below w.heap.size C C' → S xs C')
    (hseq : SeqStrs 6 gf lb S N w) :
    Calls Tryz.prog 69 #[.func (.func gf) #[] lb] w fun e w' => ∃ v ss, e = .returned v ∧ S ss w' ∧ ss.length ≤ N ∧ w'.ownsRow w.heap.size 9 1 v ss.length (strVals ss) ∧ Below w.heap.size w w' := by
  have HA := Lib.hid (callsIn_wide.1 (appendSeq_any gf lb eg S N hN w hS hseq))
  clear hseq hS
  go_enter Tryz.func69, Tryz.ntmps69
  go_wp2_with fail
  refine HA.out.mono ?_
  rintro e w1 ⟨v, ss, rfl, h1, h2, h3, h4⟩
  go_wp2
  go_ret
  exact ⟨v, ss, rfl, h1, h2, h3, h4⟩

end Go.Proofs.YtceclhndagoddaaGreatDoor
end

section
namespace Go.Proofs
open Go.Shelf
def Tryz.laysClone_ren : Go.Shelf.Ren := ⟨fun | 316 => 73 | n => n, fun | 9 => 9 | 3 => 3 | 4 => 4 | 37 => 22 | 0 => 0 | 127 => 122 | 5 => 5 | n => n, fun | n => n⟩
theorem Tryz.laysClone : Go.Proofs.LaysM.n316 Tryz.prog Tryz.laysClone_ren := {
  mixed := by kernel_rfl
  f316 := Tryz.func73.trans (congrArg some (by kernel_rfl))
  t0 := Tryz.underlying0
  a0 := Tryz.isAgg0
  z0 := Tryz.sizeOf0
  v0 := Tryz.zeroValue0
  t3 := Tryz.underlying3
  a3 := Tryz.isAgg3
  z3 := Tryz.sizeOf3
  v3 := Tryz.zeroValue3
  t4 := Tryz.underlying4
  a4 := Tryz.isAgg4
  z4 := Tryz.sizeOf4
  v4 := Tryz.zeroValue4
  t9 := Tryz.underlying9
  a9 := Tryz.isAgg9
  z9 := Tryz.sizeOf9
  v9 := Tryz.zeroValue9
  t37 := Tryz.underlying22
  a37 := Tryz.isAgg22
  z37 := Tryz.sizeOf22
  v37 := Tryz.zeroValue22
  t127 := Tryz.underlying122
  a127 := Tryz.isAgg122
  z127 := Tryz.sizeOf122
  v127 := Tryz.zeroValue122
  t5 := Tryz.underlying5
  a5 := Tryz.isAgg5
  z5 := Tryz.sizeOf5
  v5 := Tryz.zeroValue5
  i0 := by kernel_rfl
  i3 := by kernel_rfl
  i4 := by kernel_rfl
  i5 := by kernel_rfl
  i9 := by kernel_rfl
  i37 := by kernel_rfl
  i127 := by kernel_rfl }
end Go.Proofs

namespace Go.Proofs.YtceclhndagoddaaGreatDoor
open Go.RowKit

set_option maxHeartbeats 1000000 in
theorem implAreAscending_any (A : Option Addr) (c B : Nat) (ss : List ByteArray) (w : World) (hA : StrsAt w B A ss) (hn : ss.length < maxLen) :
    Calls Tryz.prog 102 #[.slice A ss.length c] w (BoolDrew (ascB ss) w) := by
  unfold maxLen at hn
  go_enter Tryz.func102, Tryz.ntmps102
  go_wp2
  go_loopw [3] (fun i wr => ∃ k : Nat, k ≤ ss.length + 1 ∧ 1 ≤ k ∧ i = .int .i64 k ∧ (∀ j, (hj : j < ss.length) → 1 ≤ j → j < k → lessB (ss[j - 1]'(by omega)) ss[j] = true) ∧ ∃ n, wr = w.drewN n) (fun i _ => ss.length - (intOf i).toNat)
  case atStart => exact ⟨1, by omega, by omega, rfl, fun j _ h1 h2 => absurd h2 (by omega), 0, rfl⟩
  case round =>
    obtain ⟨k, hk, hk1, rfl, hall, n, rfl⟩ := hrel
    have HA := Lib.hid hall
    clear hall
    by_cases hlt : k < ss.length
    · have hltI : (k : Int) < (ss.length : Int) := by omega
      obtain ⟨b, off, rfl, _, hcell⟩ := hA k hlt
      obtain ⟨b', off', e', _, hcell'⟩ := hA (k - 1) (by omega)
      cases e'
      cases hles : lessB (ss[k - 1]'(by omega)) ss[k]
      · have hd := Lib.hid (ascB_no ss k hk1 hlt hles)
        have hq : (!Op.bytesLess (ss[k - 1]'(by omega)).toList ss[k].toList) = true := by
          rw [ByteArray.toList_eq, ByteArray.toList_eq, show Op.bytesLess _ _ = false from hles]
          rfl
        clear hles
        go_wp2
        go_quiet (fail)
        go_wp2
        go_ret
        exact ⟨by rw [hd.out]; rfl, _, World.drewN_drewN _ _ _⟩
      · have hq : (!Op.bytesLess (ss[k - 1]'(by omega)).toList ss[k].toList) = false := by
          rw [ByteArray.toList_eq, ByteArray.toList_eq, show Op.bytesLess _ _ = true from hles]
          rfl
        have HE := Lib.hid hles
        clear hles
        go_wp2
        go_quiet (fail)
        go_wp2
        go_roundw
        case rel =>
          refine ⟨k + 1, by omega, by omega, by go_num, fun j hj h1 h2 => ?_, _, rfl⟩
          by_cases e : j = k
          · subst e
            exact HE.out
          · exact HA.out j hj h1 (by omega)
        case measure => simp [intOf]; omega
    · have hltI : ¬ (k : Int) < (ss.length : Int) := by omega
      have hd := Lib.hid (ascB_yes ss (fun j hj h1 => HA.out j hj (by omega) (by omega)))
      go_wp2
      go_ret
      exact ⟨by rw [hd.out]; rfl, n, rfl⟩

theorem clone_any (s : ByteArray) (w : World) (hs : s.size ≤ 1048576) :
    Calls Tryz.prog 41 #[.string s] w fun e w' => e = .returned (.string s) ∧ Below w.heap.size w w' := by
  have hc := Lib.hid (Any.stringslite_Clone Tryz.laysClone s w (by omega))
  go_enter Tryz.func41, Tryz.ntmps41
  go_wp2_with fail
  refine hc.out.mono ?_
  rintro e w1 ⟨rfl, hb1⟩
  go_wp2
  go_ret
  exact ⟨rfl, hb1⟩

end Go.Proofs.YtceclhndagoddaaGreatDoor

namespace Go.Proofs.YtceclhndagoddaaGreatDoor
open Go.RowKit

theorem letter_yes (r : Int) (w : World) (h1 : 97 ≤ r) (h2 : r ≤ 122) :
    Calls Tryz.prog 93 #[.int .i32 r] w fun e w' => e = .returned (.bool true) ∧ w = w' := by
  go_enter Tryz.func93, Tryz.ntmps93
  go_wp2
  go_ret
  exact ⟨rfl, rfl⟩
theorem letter_no (r : Int) (w : World) (h : r < 97 ∨ 122 < r) :
    Calls Tryz.prog 93 #[.int .i32 r] w fun e w' => e = .returned (.bool false) ∧ w = w' := by
  by_cases h1 : 97 ≤ r
  · have h2 : ¬ r ≤ 122 := by omega
    clear h
    go_enter Tryz.func93, Tryz.ntmps93
    go_wp2
    go_ret
    exact ⟨rfl, rfl⟩
  · clear h
    go_enter Tryz.func93, Tryz.ntmps93
    go_wp2
    go_ret
    exact ⟨rfl, rfl⟩
theorem digit_yes (r : Int) (w : World) (h1 : 48 ≤ r) (h2 : r ≤ 57) :
    Calls Tryz.prog 80 #[.int .i32 r] w fun e w' => e = .returned (.bool true) ∧ w = w' := by
  go_enter Tryz.func80, Tryz.ntmps80
  go_wp2
  go_ret
  exact ⟨rfl, rfl⟩
theorem digit_no (r : Int) (w : World) (h : r < 48 ∨ 57 < r) :
    Calls Tryz.prog 80 #[.int .i32 r] w fun e w' => e = .returned (.bool false) ∧ w = w' := by
  by_cases h1 : 48 ≤ r
  · have h2 : ¬ r ≤ 57 := by omega
    clear h
    go_enter Tryz.func80, Tryz.ntmps80
    go_wp2
    go_ret
    exact ⟨rfl, rfl⟩
  · clear h
    go_enter Tryz.func80, Tryz.ntmps80
    go_wp2
    go_ret
    exact ⟨rfl, rfl⟩

theorem decode_cases (s : ByteArray) (k : Nat) (h : k < s.size) : ∃ r wd : Nat, Utf8.decode s k = (r, wd) ∧ 1 ≤ wd ∧ (r < 128 → wd = 1 ∧ r = s[k].toNat) ∧ (128 ≤ r → 128 ≤ s[k].toNat) ∧ r ≤ 2147483647 := by
  have hle := decode_le s k
  by_cases ha : s[k].toNat < 128
  · have e := decode_ascii s k h ha
    refine ⟨_, _, e, Nat.le_refl _, fun _ => ⟨rfl, rfl⟩, fun h => by omega, by omega⟩
  · have h2 := decode_high s k h (by omega)
    rcases hd : Utf8.decode s k with ⟨r, wd⟩
    rw [hd] at h2 hle
    obtain ⟨h3, h4⟩ := h2
    exact ⟨_, _, rfl, h4, fun h => by simp at h3; omega, fun _ => by omega, hle⟩

theorem nameAt_no (k : Nat) (c : UInt8) (h1 : ¬ (97 ≤ c.toNat ∧ c.toNat ≤ 122)) (h2 : ¬ 0 < k ∨ ¬ (48 ≤ c.toNat ∧ c.toNat ≤ 57)) : nameAt k c = false := by
  unfold nameAt
  rw [Bool.or_eq_false_iff]
  constructor
  · rw [Bool.and_eq_false_iff]
    simp
    omega
  · rw [Bool.and_eq_false_iff, Bool.and_eq_false_iff]
    simp
    omega
theorem isNameB_long (s : ByteArray) (h : 4 < s.size) : isNameB s = false := by
  unfold isNameB
  simp [show ¬ s.size ≤ 4 by omega]

/-- A bool is handed back; what was there stands. -/
def BoolBelow (b : Bool) (w : World) (e : Ending) (w' : World) : Prop := e = .returned (.bool b) ∧ Below w.heap.size w w'

theorem iter_below (w : World) (s : ByteArray) (k : Nat) : Below w.heap.size w (w.iter s k) := (Below.refl _ _).alloc (Nat.le_refl _) _

set_option maxHeartbeats 1000000 in
theorem implIsName_any (s : ByteArray) (w : World) (hs : s.size ≤ maxLen) :
    Calls Tryz.prog 96 #[.string s] w (BoolBelow (isNameB s) w) := by
  unfold maxLen at hs
  go_enter Tryz.func96, Tryz.ntmps96
  go_wp2
  go_loopw [2] (fun r2 w' => ∃ k : Nat, r2 = .bool false ∧ w' = w.iter s k ∧ k ≤ s.size ∧ k ≤ 4 ∧ ∀ j, j < k → nameAt j (s.data.getD j 0) = true) (fun _ w' => s.size - w'.iterPos w.heap.size)
  case atStart => exact ⟨0, rfl, rfl, Nat.zero_le _, Nat.zero_le _, fun j h => absurd h (by omega)⟩
  case round =>
    obtain ⟨k, rfl, rfl, hk, hk4, hall⟩ := hrel
    have HA := Lib.hid hall
    clear hall
    by_cases hp : k < s.size
    · obtain ⟨r, wd, hd, hwd, hlo, hhi, hr⟩ := decode_cases s k hp
      have hnx : ∀ ty, (Instr.next (.pointer (some ⟨w.heap.size, 0, none⟩)) true ty).run Tryz.prog (w.iter s k) = .ok (.tuple #[.bool true, .int .i64 k, .int .i32 r]) (w.iter s (k + wd)) := fun ty => by
        rw [run_next_any w s k ty hp, hd]
      have hget : s.data.getD k 0 = s[k] := by
        rw [Array.getD_eq_getD_getElem?, Array.getElem?_eq_getElem hp]; rfl
      have HG := Lib.hid hget
      have HD := Lib.hid hd
      clear hget hd
      by_cases h4 : 4 ≤ k
      · have i4 : (4 : Int) ≤ k := by omega
        have hno := Lib.hid (isNameB_long s (by omega))
        go_wp2
        go_ret
        exact ⟨by rw [hno.out]; rfl, iter_below _ _ _⟩
      · have i4 : ¬ (4 : Int) ≤ k := by omega
        by_cases hlet : 97 ≤ r ∧ r ≤ 122
        · have hc := hlo (by omega)
          have hct := Lib.hid hc
          have i1 : 97 ≤ (r : Int) := by omega
          have i2 : (r : Int) ≤ 122 := by omega
          have hR := Lib.hid hlet
          clear hlet hc hlo hhi
          go_wp2_with fail
          refine (letter_yes r _ i1 i2).mono ?_
          rintro e w' ⟨rfl, rfl⟩
          go_wp2
          go_roundw
          case rel =>
            refine ⟨k + wd, rfl, rfl, by have := hct.out; omega, by have := hct.out; omega, fun j hj => ?_⟩
            have h1 := hct.out
            by_cases e : j = k
            · subst e
              rw [HG.out]
              have := hR.out
              simp [nameAt, show 97 ≤ s[j].toNat by omega, show s[j].toNat ≤ 122 by omega]
            · exact HA.out j (by omega)
          case measure => simp; omega
        · have i1 : (r : Int) < 97 ∨ 122 < (r : Int) := by omega
          by_cases hk0 : k = 0
          · have hno := Lib.hid (isNameB_no s k hp (by
              rw [HG.out]
              by_cases h128 : r < 128
              · have := hlo h128
                exact nameAt_no _ _ (by omega) (.inl (by omega))
              · have := hhi (by omega)
                exact nameAt_no _ _ (by omega) (.inl (by omega))))
            have i0 : ((k : Int) == 0) = true := by rw [beq_iff_eq]; omega
            have hR := Lib.hid hlet
            have hk0' := Lib.hid hk0
            clear hlet hlo hhi hk0
            go_wp2_with fail
            refine (letter_no r _ i1).mono ?_
            rintro e w' ⟨rfl, rfl⟩
            clear i1
            go_wp2
            go_ret
            exact ⟨by rw [hno.out]; rfl, iter_below _ _ _⟩
          · have i0 : ((k : Int) == 0) = false := by rw [beq_eq_false_iff_ne]; omega
            by_cases hdig : 48 ≤ r ∧ r ≤ 57
            · have hc := hlo (by omega)
              have hct := Lib.hid hc
              have i3 : 48 ≤ (r : Int) := by omega
              have i5 : (r : Int) ≤ 57 := by omega
              have hR := Lib.hid hdig
              clear hlet hc hlo hhi hdig
              go_wp2_with fail
              refine (letter_no r _ i1).mono ?_
              rintro e w' ⟨rfl, rfl⟩
              clear i1
              go_wp2_with fail
              refine (digit_yes r _ i3 i5).mono ?_
              rintro e w' ⟨rfl, rfl⟩
              go_wp2
              go_roundw
              case rel =>
                refine ⟨k + wd, rfl, rfl, by have := hct.out; omega, by have := hct.out; omega, fun j hj => ?_⟩
                have h1 := hct.out
                by_cases e : j = k
                · subst e
                  rw [HG.out]
                  have := hR.out
                  simp [nameAt, show 48 ≤ s[j].toNat by omega, show s[j].toNat ≤ 57 by omega, show 0 < j by omega]
                · exact HA.out j (by omega)
              case measure => simp; omega
            · have i3 : (r : Int) < 48 ∨ 57 < (r : Int) := by omega
              have hno := Lib.hid (isNameB_no s k hp (by
                rw [HG.out]
                by_cases h128 : r < 128
                · have := hlo h128
                  exact nameAt_no _ _ (by omega) (.inr (by omega))
                · have := hhi (by omega)
                  exact nameAt_no _ _ (by omega) (.inr (by omega))))
              clear hlet hlo hhi hdig
              go_wp2_with fail
              refine (letter_no r _ i1).mono ?_
              rintro e w' ⟨rfl, rfl⟩
              clear i1
              go_wp2_with fail
              refine (digit_no r _ i3).mono ?_
              rintro e w' ⟨rfl, rfl⟩
              clear i3
              go_wp2
              go_ret
              exact ⟨by rw [hno.out]; rfl, iter_below _ _ _⟩
    · have hnx : ∀ ty, (Instr.next (.pointer (some ⟨w.heap.size, 0, none⟩)) true ty).run Tryz.prog (w.iter s k) = _ := fun ty => run_next_end w s k ty hp
      have hB := Lib.hid (isNameB_all s (fun j hj => HA.out j (by omega)))
      by_cases h0 : s.size = 0
      · have he : s.toList.isEmpty = true := by rw [ByteArray.toList_eq, List.isEmpty_iff, ← List.length_eq_zero_iff, Array.length_toList]; exact h0
        have H0 := Lib.hid h0
        clear h0
        go_wp2
        go_ret
        exact ⟨by rw [hB.out, H0.out]; rfl, iter_below _ _ _⟩
      · have he : s.toList.isEmpty = false := by
          rw [ByteArray.toList_eq, Bool.eq_false_iff, Ne, List.isEmpty_iff, ← List.length_eq_zero_iff, Array.length_toList]; exact h0
        have H0 := Lib.hid h0
        clear h0
        go_wp2
        go_ret
        refine ⟨?_, iter_below _ _ _⟩
        have := H0.out
        rw [hB.out]
        simp [show 1 ≤ s.size by omega, show s.size ≤ 4 by omega]

end Go.Proofs.YtceclhndagoddaaGreatDoor
end
