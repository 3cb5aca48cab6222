/- Lemmas: RFun2, RSeq, RValue. -/
import Derived.Test.YtceclhndagoddaaDoorLawParseValue_16
import Derived.Test.YtceclhndagoddaaDoorLawParseValue_17

section
namespace Go.Proofs.YtceclhndagoddaaDoor
open Go Go.RowKit

/-- All below n is kept but what Y says. -/
structure BelowX (Y : Nat → Prop) (n : Nat) (w w' : World) : Prop where
  os : w'.os = w.os
  tape : w'.tape = w.tape
  output : w'.output = w.output
  size : w.heap.size ≤ w'.heap.size
  block : ∀ i, i < n → ¬ Y i → w'.heap[i]? = w.heap[i]?
theorem BelowX.of {Y : Nat → Prop} {n : Nat} {w w' : World} (h : Below n w w') : BelowX Y n w w' := ⟨h.os, h.tape, h.output, h.size, fun i hi _ => h.block i hi⟩
theorem BelowX.refl (Y : Nat → Prop) (n : Nat) (w : World) : BelowX Y n w w := ⟨rfl, rfl, rfl, Nat.le_refl _, fun _ _ _ => rfl⟩
theorem BelowX.trans {Y : Nat → Prop} {n : Nat} {a b c : World} (h : BelowX Y n a b) (k : BelowX Y n b c) : BelowX Y n a c :=
  ⟨k.os.trans h.os, k.tape.trans h.tape, k.output.trans h.output, Nat.le_trans h.size k.size, fun i hi hy => (k.block i hi hy).trans (h.block i hi hy)⟩
theorem BelowX.set {Y : Nat → Prop} {n : Nat} {a b : World} (h : BelowX Y n a b) {p : Addr} (hp : n ≤ p.block ∨ Y p.block) (v : Value) : BelowX Y n a (b.setCell p v) :=
  ⟨h.os, h.tape, h.output, by simpa [World.setCell] using h.size, fun i hi hy => (Below.heap_setCell _ _ _ _ (fun e => by
    subst e
    rcases hp with hp | hp
    · omega
    · exact hy hp)).trans (h.block i hi hy)⟩

/-- What the body's walk keeps. -/
structure KeptY (Y : Nat → Prop) (n0 D l : Nat) (B C : World) : Prop where
  defers : C.heap[D]? = B.heap[D]?
  loop : C.heap[l]? = B.heap[l]?
  below : BelowX Y n0 B C
theorem KeptY.refl (Y : Nat → Prop) (n0 D l : Nat) (B : World) : KeptY Y n0 D l B B := ⟨rfl, rfl, BelowX.refl _ _ _⟩
theorem KeptY.trans {Y : Nat → Prop} {n0 D l : Nat} {a b c : World} (h : KeptY Y n0 D l a b) (k : KeptY Y n0 D l b c) : KeptY Y n0 D l a c := ⟨k.defers.trans h.defers, k.loop.trans h.loop, h.below.trans k.below⟩
/-- How the body of a round may be left: off its end, or by a return. -/
def roundLeftY (Y : Nat → Prop) (n0 D l : Nat) (B : World) (G Gx : World → Prop) : Exit → Act → World → Prop
  | .normal, _, C => KeptY Y n0 D l B C ∧ G C
  | .ret, _, C => KeptY Y n0 D l B C ∧ Gx C
  | _, _, _ => False

variable {F : Fence} {n : Nat} {P : Program} {α : Type}
/-- The contract of an iterator that turns blocks of X alone; Px: what it says of what it hands over; S, Sp: what stands in the end. -/
def SeqTurnY (Y : Nat → Prop) (F : Fence) (n : Nat) (P : Program) (gf : Nat) (lb : Array Value) (encs : α → Array Value) (X : Nat → Prop) (Px : List α → World → α → World → Prop) (S Sp : List α → World → Prop) (w : World) : Prop :=
  ∀ (l : Nat) (J Jx : List α → World → Prop) (W : World), Below w.heap.size w W →
    (∀ pre x A B, J pre A → Turn X A B → Px pre A x B → YieldAt F (n - 1) P l (encs x) B fun e C =>
      (e = .returned (.bool true) ∧ J (pre ++ [x]) C ∧ BelowX Y w.heap.size B C) ∨ (e = .returned (.bool false) ∧ Jx (pre ++ [x]) C ∧ BelowX Y w.heap.size B C)) →
    J [] W →
    CallsIn F n P gf (#[.func (.yield l) #[] #[]] ++ lb) W fun e C => (∃ v, e = .returned v) ∧ ((∃ xs A, J xs A ∧ Turn X A C ∧ S xs C) ∨ (∃ pre A, Jx pre A ∧ Turn X A C ∧ Sp pre C))

theorem rangeFunc_turnY {Y : Nat → Prop} {g : Operand} {ps : Array Tmp} {assign body : Code} {Q : Exit → Act → World → Prop} {a : Act} {w : World}
    (hro : F.round = none) (h1 : 1 ≤ n) {gf : Nat} {lb : Array Value} (hg : a.eval g = .func (.func gf) #[] lb) (hFg : F.fn gf) (eg : ∀ args w, (callFunc gf args).run P w = .ok (.enter gf args) w)
    {encs : α → Array Value} (hps : ∀ x, (encs x).size = ps.size) {X : Nat → Prop} (hX : ∀ i, X i → i < w.heap.size) {Px : List α → World → α → World → Prop} {S Sp : List α → World → Prop} {w0 : World} (hw0 : Below w0.heap.size w0 w)
    (hseq : SeqTurnY Y F (n - 1) P gf lb encs X Px S Sp w0) (I Ix : List α → World → Prop)
    (hI : ∀ pre A C, I pre A → SameBut (w.heap.size + 1) A C → I pre C) (hIx : ∀ pre A C, Ix pre A → SameBut (w.heap.size + 1) A C → Ix pre C)
    (h0 : ∀ W, Below w.heap.size w W → W.heap.size = w.heap.size + 2 → I [] W)
    (hround : ∀ pre x A B, I pre A → Turn X A B → Px pre A x B → w.heap.size + 2 ≤ A.heap.size →
      assign.wpIn (F.inRound (w.heap.size + 1)) (n - 1 - 1) P (Exit.then (fun a₁ B2 => KeptY Y w0.heap.size w.heap.size (w.heap.size + 1) B B2 ∧ ∀ B3, SameBut (w.heap.size + 1) B2 B3 →
        body.wpIn (F.inRound (w.heap.size + 1)) (n - 1 - 1) P (roundLeftY Y w0.heap.size w.heap.size (w.heap.size + 1) B3 (I (pre ++ [x])) (Ix (pre ++ [x]))) a₁ B3) (fun _ _ _ => False))
        { tmps := (ps.zip (encs x)).foldl (fun t (p, v) => t.setIfInBounds p v) a.tmps, defers := [] } B)
    (hdone : ∀ xs A C C', I xs A → Turn X A C → S xs C → SameBut (w.heap.size + 1) C C' → w.heap.size + 2 ≤ A.heap.size → C'.heap[w.heap.size]? = some (.deferred (some [])) → Q .normal { a with defers := { target := .collected w.heap.size, args := #[] } :: a.defers } C')
    (hstop : ∀ pre A C C', Ix pre A → Turn X A C → Sp pre C → SameBut (w.heap.size + 1) C C' → w.heap.size + 2 ≤ A.heap.size → C'.heap[w.heap.size]? = some (.deferred (some [])) → Code.ret.wpIn F n P Q { a with defers := { target := .collected w.heap.size, args := #[] } :: a.defers } C') :
    (Code.rangeFunc g ps assign body).wpIn F n P Q a w := by
  refine wpIn_rangeFunc ?_
  intro fn hfn
  rw [hro]
  obtain ⟨D, hD⟩ : ∃ D, D = w.heap.size := ⟨_, rfl⟩
  obtain ⟨rec, hrec⟩ : ∃ rec : LoopState → Option Code → Loop, rec = fun st pe => { state := st, pending := pe, fn, tmps := a.tmps, params := ps, assign, body, defers := D } := ⟨_, rfl⟩
  obtain ⟨W1, hW1⟩ : ∃ W1, (w.alloc (.deferred (some []))).alloc (.loop (rec .ready none)) = W1 := ⟨_, rfl⟩
  have hs1 : W1.heap.size = D + 2 := by rw [← hW1, hD]; simp
  have hL1 : W1.heap[D + 1]? = some (.loop (rec .ready none)) := by
    have h := World.alloc_heap_new (w.alloc (.deferred (some []))) (.loop (rec .ready none))
    rw [World.size_alloc, hW1] at h
    rw [hD]
    exact h
  have hK1 : W1.heap[D]? = some (.deferred (some [])) := by
    rw [← hW1, hD]
    exact (Below.heap_alloc _ _ _ (by simp)).trans (World.alloc_heap_new w _)
  have hb1 : Below w.heap.size w W1 := by
    rw [← hW1]
    exact ((Below.refl _ w).alloc (Nat.le_refl _) _).alloc (by simp) _
  -- between two rounds
  refine ⟨D + 1, [{ target := .collected D, args := #[] }], W1, { target := .fn (.func gf) lb, args := #[.func (.yield (D + 1)) #[] #[]] }, W1, gf, #[.func (.yield (D + 1)) #[] #[]] ++ lb, W1, ?_, ?_, ?_, ?_, fun _ => h1, ?_⟩
  · rw [← hW1, hrec, hD]
    exact run_enterLoop_outer _ _ _ _ _
  · simp only [resolve, hg]
    simp [go_sem]
  · intro f' hf'
    simp [Target.leads] at hf'
    subst hf'
    exact hFg
  · simp [invoke, go_sem, eg]
  · refine (hseq (D + 1) (fun pre W => I pre W ∧ W.heap[D + 1]? = some (.loop (rec .ready none)) ∧ W.heap[D]? = some (.deferred (some [])) ∧ D + 2 ≤ W.heap.size)
      (fun pre W => Ix pre W ∧ W.heap[D + 1]? = some (.loop (rec .done (some .ret))) ∧ W.heap[D]? = some (.deferred (some [])) ∧ D + 2 ≤ W.heap.size)
      W1 (hw0.trans (hb1.mono hw0.size)) ?_ ⟨h0 W1 hb1 (by rw [hs1, hD]), hL1, hK1, by omega⟩).mono ?_
    · -- one round
      rintro pre x A B ⟨hi, hl, hk, hsz⟩ hT hP
      have hlB : B.heap[D + 1]? = some (.loop (rec .ready none)) := (hT.block _ (by omega) (fun hx => by have := hX _ hx; omega)).trans hl
      have hkB : B.heap[D]? = some (.deferred (some [])) := (hT.block _ (by omega) (fun hx => by have := hX _ hx; omega)).trans hk
      have hy := run_yield (P := P) (args := encs x) hlB (by rw [hrec]; exact hps x)
      rw [hrec] at hy
      have hr := hround pre x A B hi hT hP (by omega)
      rw [← hD] at hr
      refine ⟨fn, _, assign, body, hy, roundIn_of_wpIn hfn (wpIn_mono hr ?_)⟩
      rintro e a₁ B2 he
      cases e with
      | normal =>
        obtain ⟨hkept, hbody⟩ := he
        have hl2 := hkept.loop.trans hlB
        have hk2 := hkept.defers.trans hkB
        have hlt2 : D + 1 < B2.heap.size := (Array.getElem?_eq_some_iff.1 hl2).1
        refine ⟨_, run_beginRound hl2 (by rw [hrec]), ?_⟩
        have hb3 := hbody _ (sameBut_put B2 (D + 1) (.loop { rec .ready none with state := .busy }))
        have hl3 : (B2.putObj (D + 1) (.loop { rec .ready none with state := .busy })).heap[D + 1]? = some (.loop { rec .ready none with state := .busy }) := World.putObj_heap_same hlt2
        have hk3 : (B2.putObj (D + 1) (.loop { rec .ready none with state := .busy })).heap[D]? = some (.deferred (some [])) := (World.putObj_heap_other (by omega)).trans hk2
        have hw3 : Below w0.heap.size B2 (B2.putObj (D + 1) (.loop { rec .ready none with state := .busy })) := ((sameBut_put B2 (D + 1) _).below (B := D) (by omega) (by omega)).mono (by rw [hD]; exact hw0.size)
        refine wpIn_mono hb3 ?_
        rintro e a3 C hp
        have fin : ∀ (jump : Option Code), KeptY Y w0.heap.size D (D + 1) (B2.putObj (D + 1) (.loop { rec .ready none with state := .busy })) C →
            (Instr.endRound (D + 1) jump).run P C = .ok (.bool jump.isNone) (C.putObj (D + 1) (.loop (rec (if jump.isNone then .ready else .done) jump))) ∧
            (C.putObj (D + 1) (.loop (rec (if jump.isNone then .ready else .done) jump))).heap[D + 1]? = some (.loop (rec (if jump.isNone then .ready else .done) jump)) ∧
            (C.putObj (D + 1) (.loop (rec (if jump.isNone then .ready else .done) jump))).heap[D]? = some (.deferred (some [])) ∧ D + 2 ≤ (C.putObj (D + 1) (.loop (rec (if jump.isNone then .ready else .done) jump))).heap.size ∧
            BelowX Y w0.heap.size B (C.putObj (D + 1) (.loop (rec (if jump.isNone then .ready else .done) jump))) := fun jump hkc => by
          have hlc := hkc.loop.trans hl3
          have hltc : D + 1 < C.heap.size := (Array.getElem?_eq_some_iff.1 hlc).1
          have hend := run_endRound (P := P) jump hlc
          rw [hrec] at hend
          refine ⟨?_, World.putObj_heap_same hltc, (World.putObj_heap_other (by omega)).trans (hkc.defers.trans hk3), by simp; omega, ?_⟩
          · rw [hrec]
            exact hend
          · have q0 : BelowX Y w0.heap.size B B2 := hkept.below
            have q1 : BelowX Y w0.heap.size (B2.putObj (D + 1) (.loop { rec .ready none with state := .busy })) C := hkc.below
            have q2 : Below w0.heap.size C (C.putObj (D + 1) (.loop (rec (if jump.isNone then .ready else .done) jump))) := ((sameBut_put C (D + 1) _).below (B := D) (by omega) (by omega)).mono (by rw [hD]; exact hw0.size)
            exact ((q0.trans (BelowX.of hw3)).trans q1).trans (BelowX.of q2)
        cases e with
        | normal =>
          obtain ⟨hkc, hic⟩ := hp
          obtain ⟨f1, f2, f3, f4, f5⟩ := fin none hkc
          exact ⟨_, _, f1, .inl ⟨rfl, ⟨hI _ _ _ hic (by rw [← hD]; exact sameBut_put _ _ _), f2, f3, f4⟩, f5⟩⟩
        | ret =>
          obtain ⟨hkc, hic⟩ := hp
          obtain ⟨f1, f2, f3, f4, f5⟩ := fin (some .ret) hkc
          exact ⟨_, _, f1, .inr ⟨rfl, ⟨hIx _ _ _ hic (by rw [← hD]; exact sameBut_put _ _ _), f2, f3, f4⟩, f5⟩⟩
        | exit id => exact hp.elim
        | goto t => exact hp.elim
        | panic ch => exact hp.elim
        | outgrown => exact hp.elim
      | exit id => exact he.elim
      | goto t => exact he.elim
      | ret => exact he.elim
      | panic ch => exact he.elim
      | outgrown => exact he.elim
    · -- behind the iterator
      rintro e C ⟨⟨v, rfl⟩, (⟨xs, A, ⟨hi, hl, hk, hsz⟩, hT, hS⟩ | ⟨pre, A, ⟨hi, hl, hk, hsz⟩, hT, hS⟩)⟩
      · have hlC : C.heap[D + 1]? = some (.loop (rec .ready none)) := (hT.block _ (by omega) (fun hx => by have := hX _ hx; omega)).trans hl
        have hkC : C.heap[D]? = some (.deferred (some [])) := (hT.block _ (by omega) (fun hx => by have := hX _ hx; omega)).trans hk
        have hend := run_endLoop (P := P) hlC (by rw [hrec]; simp)
        refine ⟨none, _, by rw [hrec] at hend; exact hend, ?_⟩
        have hq := hdone xs A C _ hi hT hS (by rw [← hD]; exact sameBut_put C (D + 1) (.loop { state := .exhausted, pending := none, fn, tmps := a.tmps, params := ps, assign, body, defers := D })) (by omega) (by rw [← hD]; exact (World.putObj_heap_other (by omega)).trans hkC)
        rw [← hD] at hq
        exact hq
      · have hlC : C.heap[D + 1]? = some (.loop (rec .done (some .ret))) := (hT.block _ (by omega) (fun hx => by have := hX _ hx; omega)).trans hl
        have hkC : C.heap[D]? = some (.deferred (some [])) := (hT.block _ (by omega) (fun hx => by have := hX _ hx; omega)).trans hk
        have hend := run_endLoop (P := P) hlC (by rw [hrec]; simp)
        refine ⟨some .ret, _, by rw [hrec] at hend; exact hend, ?_⟩
        have hq := hstop pre A C _ hi hT hS (by rw [← hD]; exact sameBut_put C (D + 1) (.loop { state := .exhausted, pending := some .ret, fn, tmps := a.tmps, params := ps, assign, body, defers := D })) (by omega) (by rw [← hD]; exact (World.putObj_heap_other (by omega)).trans hkC)
        rw [← hD] at hq
        exact hq

end Go.Proofs.YtceclhndagoddaaDoor
end

section
namespace Go.Proofs.YtceclhndagoddaaDoor
open Go Go.RowKit

structure PV (β : Type) where
  lab : ByteArray
  k : Int
  n : Int
  nm : ByteArray
  L : Option Addr
  nl : Nat
  lc : Nat
  A : Option Addr
  na : Nat
  ac : Nat
  ok : Bool
  b : Option β
def PV.val {β : Type} (p : PV β) : Value := .agg #[.int .i64 p.k, .int .i64 p.n, .string p.nm, .slice p.L p.nl p.lc, .slice p.A p.na p.ac]
def PV.enc {β : Type} (p : PV β) : Array Value := #[.agg #[.string p.lab, .int .i64 p.k, .int .i64 p.n, .string p.nm, .slice p.L p.nl p.lc, .slice p.A p.na p.ac], .bool p.ok]
/-- All that was read. -/
def reads {β : Type} (ps : List (PV β)) : List β := ps.filterMap (·.b)
/-- How many nodes it has. -/
def nodes {β : Type} (val : β → Va) (ps : List (PV β)) : Nat := szs (fun b => sizeVa (val b)) (reads ps)
/-- What the iterator says of a part. -/
def PVx {β : Type} (lab : β → ByteArray) (val : β → Va) (M : Nat) (pre : List (PV β)) (A : World) (p : PV β) (B : World) : Prop :=
  p.ok = true → ∃ b, p.b = some b ∧ lab b = p.lab ∧ p.lab.size ≤ 1048576 ∧ nodes val (pre ++ [p]) ≤ M ∧ OwnVa B A.heap.size p.val (val b)
/-- The end: all was handed over. -/
def PVs {β : Type} (val : β → Va) (B ps pa pr : Nat) (s : ByteArray) (j M : Nat) (f : List UInt8 → Option (β × List UInt8)) (e : UInt8) (xs : List (PV β)) (C : World) : Prop :=
  (∀ p ∈ xs, p.ok = true) → ∃ j', rdSeqE f e (restOf s j) = some (reads xs, restOf s j') ∧ nodes val xs ≤ M ∧ VR B C ps pa pr s j' (M - nodes val xs)
/-- The end: the caller stopped. -/
def PVp {β : Type} (val : β → Va) (B ps pa pr : Nat) (s : ByteArray) (j M : Nat) (f : List UInt8 → Option (β × List UInt8)) (e : UInt8) (xs : List (PV β)) (C : World) : Prop :=
  (∃ j' m', VR B C ps pa pr s j' m') ∧ ((∃ p ∈ xs, p.ok = false) → BadL (fun b => formVa (val b)) (fun b => sizeVa (val b)) M (rdSeqE f e (restOf s j)))

theorem reads_snoc {β : Type} (pre : List (PV β)) (p : PV β) (b : β) (h : p.b = some b) : reads (pre ++ [p]) = reads pre ++ [b] := by
  unfold reads
  rw [List.filterMap_append]
  simp [h]
theorem nodes_snoc {β : Type} (val : β → Va) (pre : List (PV β)) (p : PV β) (b : β) (h : p.b = some b) : nodes val (pre ++ [p]) = nodes val pre + sizeVa (val b) := by
  unfold nodes
  rw [reads_snoc pre p b h]
  simp [szs]
theorem ok_snoc {β : Type} {pre : List (PV β)} {p : PV β} (h : ∀ q ∈ pre, q.ok = true) (hp : p.ok = true) : ∀ q ∈ pre ++ [p], q.ok = true := fun q hq => by
  rcases List.mem_append.1 hq with h1 | h1
  · exact h q h1
  · rw [List.mem_singleton.1 h1]
    exact hp
theorem va_len (n : Nat) {l r : List UInt8} {t : Va} (h : rdVa n l = some (t, r)) : r.length ≤ l.length := by
  rw [rdVa_sound n l t r h, List.length_append]
  omega
theorem field_len (n : Nat) {l r : List UInt8} {b : ByteArray × Va} (h : rdField (rdVa n) l = some (b, r)) : r.length ≤ l.length := by
  rw [rdField_sound (rdVa_sound n) l b r h, List.length_append]
  omega
theorem eat_len {c : UInt8} {l r : List UInt8} (h : eat c l = some r) : l.length = r.length + 1 := by
  cases l with
  | nil => cases h
  | cons d q =>
    by_cases hd : d = c
    · subst hd
      rw [eat_cons] at h
      injection h with h
      rw [← h]
      rfl
    · rw [eat_other _ hd] at h
      cases h
theorem VR.belowX {B : Nat} {w w' : World} {ps pa pr j m C : Nat} {s : ByteArray} {Y : Nat → Prop} (h : VR B w ps pa pr s j m) (hb : BelowX Y C w w') (h1 : ps < C) (h2 : pa < C) (h3 : pr < C) (hy : ∀ i, Y i → B ≤ i ∧ i ≠ ps ∧ i ≠ pa ∧ i ≠ pr) : VR B w' ps pa pr s j m :=
  ⟨⟨(hb.block _ h1 (fun y => (hy _ y).2.1 rfl)).trans h.rd.str, (hb.block _ h2 (fun y => (hy _ y).2.2.1 rfl)).trans h.rd.place, h.rd.ne, h.rd.le⟩, (hb.block _ h3 (fun y => (hy _ y).2.2.2 rfl)).trans h.obj,
    h.nums.below ⟨hb.os, hb.tape, hb.output, hb.size, fun i hi => hb.block i (by have := h.ls; omega) (fun y => by have := (hy _ y).1; omega)⟩, h.ns, h.na, h.ls, h.la, h.lr⟩
theorem whole_belowX {w w' : World} {C b : Nat} {Y : Nat → Prop} {t : TypeId} {cs : Array Value} (h : Whole1 w b t cs) (hb : BelowX Y C w w') (hl : b < C) (hn : ¬ Y b) : Whole1 w' b t cs := (hb.block _ hl hn).trans h

end Go.Proofs.YtceclhndagoddaaDoor
end

section
namespace Go.Proofs.YtceclhndagoddaaDoor
open Go Go.RowKit

def RecR (n m : Nat) : Prop := ∀ (B : Nat) (w : World) (ps pa pr j : Nat) (s : ByteArray), VR B w ps pa pr s j m → s.size ≤ 1048576 →
  Calls Tryd.prog 74 #[.pointer (some ⟨pr, 0, none⟩)] w (ValPost B ps pa pr s (m + 1) w (rdRec (rdVa n) (restOf s j)))
def ListR (n m : Nat) : Prop := ∀ (B : Nat) (w : World) (ps pa pr j : Nat) (s : ByteArray), VR B w ps pa pr s j m → s.size ≤ 1048576 →
  Calls Tryd.prog 76 #[.pointer (some ⟨pr, 0, none⟩)] w (ValPost B ps pa pr s (m + 1) w (rdList (rdVa n) (restOf s j)))

theorem drop_head {P : UInt8 → Bool} : ∀ {l : List UInt8} {d : UInt8} {q : List UInt8}, l.dropWhile P = d :: q → P d = false
  | [], _, _, h => by cases h
  | c :: l, d, q, h => by
    by_cases hc : P c = true
    · rw [List.dropWhile_cons_of_pos hc] at h
      exact drop_head h
    · rw [List.dropWhile_cons_of_neg hc] at h
      injection h with h1 _
      rw [← h1]
      simpa using hc
/-- What ParseInt makes of the run of signs is what the model makes of the text. -/
theorem int_yes {l : List UInt8} {n : Int} (h : unItoa (l.takeWhile intC) = some n) : rdIntV l = some (.mk 1 n ⟨#[]⟩ [] [], l.dropWhile intC) := by
  obtain ⟨h1, h2, h3⟩ := unItoa_some h
  have hs : Stop (l.dropWhile intC) := fun c hc => by
    cases hd : l.dropWhile intC with
    | nil => rw [hd] at hc; cases hc
    | cons d q =>
      rw [hd] at hc
      injection hc with hc
      subst hc
      have h4 := drop_head hd
      cases hdc : digC d with
      | false => rfl
      | true => rw [digC_intC hdc] at h4; cases h4
  have e : l = Lib.itoa n ++ l.dropWhile intC := by rw [← h1]; exact (List.takeWhile_append_dropWhile).symm
  have h5 := int_reads n _ h2 h3 hs
  rw [← e] at h5
  exact h5
theorem int_shape {l r : List UInt8} {t : Va} (h : rdIntV l = some (t, r)) : ∃ n : Int, -999999999999 ≤ n ∧ n ≤ 999999999999 ∧ l = Lib.itoa n ++ r := by
  have hs := rdInt_sound l t r h
  unfold rdIntV at h
  split at h
  · split at h
    · cases h
    · rename_i n hn
      simp only [Option.some.injEq, Prod.mk.injEq] at h
      obtain ⟨rfl, _⟩ := h
      obtain ⟨_, h2, h3⟩ := unItoa_some hn
      refine ⟨n, h2, h3, ?_⟩
      rw [hs, txtV, nodeTxtV, if_pos rfl]
  · split at h
    · cases h
    · rename_i n hn
      simp only [Option.some.injEq, Prod.mk.injEq] at h
      obtain ⟨rfl, _⟩ := h
      obtain ⟨_, h2, h3⟩ := unItoa_some hn
      refine ⟨n, h2, h3, ?_⟩
      rw [hs, txtV, nodeTxtV, if_pos rfl]
theorem itoa_all (n : Int) : ∀ c ∈ Lib.itoa n, intC c = true := by
  intro c hc
  rw [Lib.itoa] at hc
  split at hc
  · rcases List.mem_cons.1 hc with rfl | h1
    · rfl
    · exact digC_intC (digs_all _ c h1)
  · exact digC_intC (digs_all _ c hc)
theorem take_all {P : UInt8 → Bool} : ∀ {l r : List UInt8}, (∀ c ∈ l, P c = true) → (∀ c q, r = c :: q → P c = false) → (l ++ r).takeWhile P = l
  | [], [], _, _ => rfl
  | [], c :: q, _, h => by rw [List.nil_append, List.takeWhile_cons_of_neg (by rw [h c q rfl]; simp)]
  | c :: l, r, h1, h2 => by
    rw [List.cons_append, List.takeWhile_cons_of_pos (h1 c (by simp)), take_all (fun d hd => h1 d (by simp [hd])) h2]
theorem int_no {l : List UInt8} (m : Nat) (h : unItoa (l.takeWhile intC) = none) : BadV m (rdIntV l) := by
  intro t r hx
  obtain ⟨n, h1, h2, h3⟩ := int_shape hx
  by_cases hh : HeadI r
  · exact Or.inr (Or.inr hh)
  · exfalso
    have e : l.takeWhile intC = Lib.itoa n := by
      rw [h3]
      refine take_all (itoa_all n) fun c q hr => ?_
      cases hc : intC c with
      | false => rfl
      | true => exact absurd ⟨c, q, hr, hc⟩ hh
    rw [unItoa_of e h1 h2] at h
    cases h

set_option maxHeartbeats 2000000 in
theorem valR_zero (n : Nat) : ValR n 0 := by
  intro B w ps pa pr j s hv hs
  have hl1 := hv.lts
  have hl2 := hv.lta
  have hl3 := hv.ltr
  obtain ⟨hb0, z0, hs0⟩ := boxes1 w 25 #[.int .i64 0, .int .i64 0, .string ⟨#[]⟩, .slice none 0 0, .slice none 0 0]
  have HV0 := Lib.hid (hv.keep hb0)
  have HT0 := Lib.hid (Turn.of_below (X := vrX pa pr) hb0)
  have HZ0 := Lib.hid z0
  clear hv hb0 z0 hs0
  go_enter Tryd.func29, Tryd.ntmps29
  go_upto_region 1 with fail
  generalize w.alloc (.cells #[.int .i64 0, .int .i64 0, .string ⟨#[]⟩, .slice none 0 0, .slice none 0 0] 25) = wa at *
  have b3 : wa.cell? ⟨pr, 3, none⟩ = some (.int .i64 0) := HV0.out.obj.cell 3
  have d0 : wa.cell? ⟨w.heap.size, 0, none⟩ = some (.int .i64 0) := HZ0.out.cell 0
  have d1 : wa.cell? ⟨w.heap.size, 1, none⟩ = some (.int .i64 0) := HZ0.out.cell 1
  have d2 : wa.cell? ⟨w.heap.size, 2, none⟩ = some (.string ⟨#[]⟩) := HZ0.out.cell 2
  have d3 : wa.cell? ⟨w.heap.size, 3, none⟩ = some (.slice none 0 0) := HZ0.out.cell 3
  have d4 : wa.cell? ⟨w.heap.size, 4, none⟩ = some (.slice none 0 0) := HZ0.out.cell 4
  have f0 : wa.frozen? ⟨w.heap.size, 0, none⟩ = false := HZ0.out.free 0
  have f1 : wa.frozen? ⟨w.heap.size, 1, none⟩ = false := HZ0.out.free 1
  have f2 : wa.frozen? ⟨w.heap.size, 2, none⟩ = false := HZ0.out.free 2
  have f3 : wa.frozen? ⟨w.heap.size, 3, none⟩ = false := HZ0.out.free 3
  have f4 : wa.frozen? ⟨w.heap.size, 4, none⟩ = false := HZ0.out.free 4
  go_wp2
  exact bodyPost_ret (v := .tuple #[.agg #[.int .i64 0, .int .i64 0, .string ⟨#[]⟩, .slice none 0 0, .slice none 0 0], .bool false]) (by simp [results, Tryd.results29, go_sem, d0, d1, d2, d3, d4]) rfl ⟨0, 0, ⟨#[]⟩, none, 0, 0, none, 0, 0, false, _, _, rfl, HV0.out.below (set5_below _ _ _ _ _ _ _) hl1 hl2 hl3, HT0.out.below (set5_below _ _ _ _ _ _ _) (Nat.le_refl _), Or.inl ⟨rfl, fun t r _ => Or.inr (Or.inl (by rw [sizeVa_eq]; omega))⟩⟩
set_option maxHeartbeats 8000000 in
set_option maxRecDepth 100000 in
theorem valR_succ (n m : Nat) (hm : m ≤ 1000) (H : ValR n m) (HR : RecR n m) (HL : ListR n m) : ValR (n + 1) (m + 1) := by
  intro B w ps pa pr j s hv hs
  have hl1 := hv.lts
  have hl2 := hv.lta
  have hl3 := hv.ltr
  obtain ⟨hb0, z0, hs0⟩ := boxes1 w 25 #[.int .i64 0, .int .i64 0, .string ⟨#[]⟩, .slice none 0 0, .slice none 0 0]
  have HV0 := Lib.hid (hv.keep hb0)
  have HT0 := Lib.hid (Turn.of_below (X := vrX pa pr) hb0)
  have HZ0 := Lib.hid z0
  have HRE := Lib.hid HR
  have HLI := Lib.hid HL
  have HCA := Lib.hid (readCase_any n m H)
  have hq0 : (((m + 1 : Nat) : Int) == 0) = false := by rw [beq_eq_false_iff_ne]; omega
  have hwr : IntKind.i64.wrap (((m + 1 : Nat) : Int) - 1) = ((m : Nat) : Int) := by rw [IntKind.wrap_i64]; omega
  clear H HR HL hv hb0 z0 hs0
  go_enter Tryd.func29, Tryd.ntmps29
  go_upto_region 1 with fail
  generalize w.alloc (.cells #[.int .i64 0, .int .i64 0, .string ⟨#[]⟩, .slice none 0 0, .slice none 0 0] 25) = wa at *
  have hwl : w.heap.size < wa.heap.size := HZ0.out.lt
  have b3 : wa.cell? ⟨pr, 3, none⟩ = some (.int .i64 ((m + 1 : Nat) : Int)) := HV0.out.obj.cell 3
  have g3 : wa.frozen? ⟨pr, 3, none⟩ = false := HV0.out.obj.free 3
  go_upto_region 4 with fail
  have HV1 := Lib.hid (HV0.out.put m)
  have HT1 := Lib.hid (HT0.out.set (p := ⟨pr, 3, none⟩) (Or.inr (Or.inr rfl)) (.int .i64 (m : Int)))
  have HZ1 : Hid (Whole1 (wa.setCell ⟨pr, 3, none⟩ (.int .i64 (m : Int))) w.heap.size 25 #[.int .i64 0, .int .i64 0, .string ⟨#[]⟩, .slice none 0 0, .slice none 0 0]) := Lib.hid ((Below.heap_setCell _ _ _ _ (by show w.heap.size ≠ pr; omega)).trans HZ0.out)
  clear b3 g3 hq0 hwr HV0 HT0 HZ0
  generalize wa.setCell ⟨pr, 3, none⟩ (.int .i64 (m : Int)) = w1 at *
  have b0 : w1.cell? ⟨pr, 0, none⟩ = some (rdAcc ps pa) := HV1.out.obj.cell 0
  have b1 : w1.cell? ⟨pr, 1, none⟩ = some (rdTak ps pa) := HV1.out.obj.cell 1
  have b2 : w1.cell? ⟨pr, 2, none⟩ = some (rdEnd ps pa) := HV1.out.obj.cell 2
  cases hx0 : eats [35, 116] (restOf s j) with
  | some r =>
    obtain ⟨hle, rfl⟩ := eats_rest (p := ⟨#[35, 116]⟩) HV1.out.rd.le hx0
    have HC := Lib.hid (accE_yes ps pa j s ⟨#[35, 116]⟩ _ w1 HV1.out.rd hs hx0)
    have E0 := Lib.hid hx0
    clear hx0
    go_wp2_with fail
    refine HC.out.mono ?_
    rintro e w2 ⟨rfl, hr2, hg2⟩
    have hT2 := Turn.of_grown hg2 (X := vrX pa pr) (Or.inl rfl)
    have HV2 := Lib.hid (HV1.out.read hr2 hg2)
    have HT2 := Lib.hid (HT1.out.trans hT2)
    have HZ2 := Lib.hid (turn_stays hT2 HZ1.out (by omega) (by omega))
    clear hr2 hg2 hT2 HC b0 b1 b2 HV1 HT1 HZ1
    have HX := Lib.hid (show rdVa (n + 1) (restOf s j) = some (.mk 2 1 ⟨#[]⟩ [] [], restOf s (j + (⟨#[35, 116]⟩ : ByteArray).size)) by simp only [rdVa, E0.out])
    have d0 : w2.cell? ⟨w.heap.size, 0, none⟩ = some (.int .i64 0) := HZ2.out.cell 0
    have d1 : w2.cell? ⟨w.heap.size, 1, none⟩ = some (.int .i64 0) := HZ2.out.cell 1
    have d2 : w2.cell? ⟨w.heap.size, 2, none⟩ = some (.string ⟨#[]⟩) := HZ2.out.cell 2
    have d3 : w2.cell? ⟨w.heap.size, 3, none⟩ = some (.slice none 0 0) := HZ2.out.cell 3
    have d4 : w2.cell? ⟨w.heap.size, 4, none⟩ = some (.slice none 0 0) := HZ2.out.cell 4
    have f0 : w2.frozen? ⟨w.heap.size, 0, none⟩ = false := HZ2.out.free 0
    have f1 : w2.frozen? ⟨w.heap.size, 1, none⟩ = false := HZ2.out.free 1
    have f2 : w2.frozen? ⟨w.heap.size, 2, none⟩ = false := HZ2.out.free 2
    have f3 : w2.frozen? ⟨w.heap.size, 3, none⟩ = false := HZ2.out.free 3
    have f4 : w2.frozen? ⟨w.heap.size, 4, none⟩ = false := HZ2.out.free 4
    go_wp2
    exact bodyPost_ret (v := .tuple #[.agg #[.int .i64 2, .int .i64 1, .string ⟨#[]⟩, .slice none 0 0, .slice none 0 0], .bool true]) (by simp [results, Tryd.results29, go_sem, d0, d1, d2, d3, d4]) rfl ⟨_, _, _, none, 0, 0, none, 0, 0, true, _, _, rfl, HV2.out.below (set5_below _ _ _ _ _ _ _) hl1 hl2 hl3, HT2.out.below (set5_below _ _ _ _ _ _ _) (Nat.le_refl _), Or.inr ⟨rfl, _, HX.out, by rw [sizeVa, sizeVas]; omega, by rw [sizeVa, sizeVas]; omega, OwnVa.leaf _ _ _ _ _ (by decide)⟩⟩
  | none =>
    have HC := Lib.hid (accE_no ps pa j s ⟨#[35, 116]⟩ w1 HV1.out.rd hx0)
    have E0 := Lib.hid hx0
    clear hx0
    go_wp2_with fail
    refine HC.out.mono ?_
    rintro e w2 ⟨rfl, hr2, hg2⟩
    have hT2 := Turn.of_grown hg2 (X := vrX pa pr) (Or.inl rfl)
    have HV2 := Lib.hid (HV1.out.read hr2 hg2)
    have HT2 := Lib.hid (HT1.out.trans hT2)
    have HZ2 := Lib.hid (turn_stays hT2 HZ1.out (by omega) (by omega))
    clear hr2 hg2 hT2 HC b0 b1 b2 HV1 HT1 HZ1
    have b0 : w2.cell? ⟨pr, 0, none⟩ = some (rdAcc ps pa) := HV2.out.obj.cell 0
    have b1 : w2.cell? ⟨pr, 1, none⟩ = some (rdTak ps pa) := HV2.out.obj.cell 1
    have b2 : w2.cell? ⟨pr, 2, none⟩ = some (rdEnd ps pa) := HV2.out.obj.cell 2
    cases hx1 : eats [35, 102] (restOf s j) with
    | some r =>
      obtain ⟨hle, rfl⟩ := eats_rest (p := ⟨#[35, 102]⟩) HV2.out.rd.le hx1
      have HC := Lib.hid (accE_yes ps pa j s ⟨#[35, 102]⟩ _ w2 HV2.out.rd hs hx1)
      have E1 := Lib.hid hx1
      clear hx1
      go_wp2_with fail
      refine HC.out.mono ?_
      rintro e w3 ⟨rfl, hr2, hg2⟩
      have hT2 := Turn.of_grown hg2 (X := vrX pa pr) (Or.inl rfl)
      have HV3 := Lib.hid (HV2.out.read hr2 hg2)
      have HT3 := Lib.hid (HT2.out.trans hT2)
      have HZ3 := Lib.hid (turn_stays hT2 HZ2.out (by omega) (by omega))
      clear hr2 hg2 hT2 HC b0 b1 b2 HV2 HT2 HZ2
      have HX := Lib.hid (show rdVa (n + 1) (restOf s j) = some (.mk 2 0 ⟨#[]⟩ [] [], restOf s (j + (⟨#[35, 102]⟩ : ByteArray).size)) by simp only [rdVa, E0.out, E1.out])
      have d0 : w3.cell? ⟨w.heap.size, 0, none⟩ = some (.int .i64 0) := HZ3.out.cell 0
      have d1 : w3.cell? ⟨w.heap.size, 1, none⟩ = some (.int .i64 0) := HZ3.out.cell 1
      have d2 : w3.cell? ⟨w.heap.size, 2, none⟩ = some (.string ⟨#[]⟩) := HZ3.out.cell 2
      have d3 : w3.cell? ⟨w.heap.size, 3, none⟩ = some (.slice none 0 0) := HZ3.out.cell 3
      have d4 : w3.cell? ⟨w.heap.size, 4, none⟩ = some (.slice none 0 0) := HZ3.out.cell 4
      have f0 : w3.frozen? ⟨w.heap.size, 0, none⟩ = false := HZ3.out.free 0
      have f1 : w3.frozen? ⟨w.heap.size, 1, none⟩ = false := HZ3.out.free 1
      have f2 : w3.frozen? ⟨w.heap.size, 2, none⟩ = false := HZ3.out.free 2
      have f3 : w3.frozen? ⟨w.heap.size, 3, none⟩ = false := HZ3.out.free 3
      have f4 : w3.frozen? ⟨w.heap.size, 4, none⟩ = false := HZ3.out.free 4
      go_wp2
      exact bodyPost_ret (v := .tuple #[.agg #[.int .i64 2, .int .i64 0, .string ⟨#[]⟩, .slice none 0 0, .slice none 0 0], .bool true]) (by simp [results, Tryd.results29, go_sem, d0, d1, d2, d3, d4]) rfl ⟨_, _, _, none, 0, 0, none, 0, 0, true, _, _, rfl, HV3.out.below (set5_below _ _ _ _ _ _ _) hl1 hl2 hl3, HT3.out.below (set5_below _ _ _ _ _ _ _) (Nat.le_refl _), Or.inr ⟨rfl, _, HX.out, by rw [sizeVa, sizeVas]; omega, by rw [sizeVa, sizeVas]; omega, OwnVa.leaf _ _ _ _ _ (by decide)⟩⟩
    | none =>
      have HC := Lib.hid (accE_no ps pa j s ⟨#[35, 102]⟩ w2 HV2.out.rd hx1)
      have E1 := Lib.hid hx1
      clear hx1
      go_wp2_with fail
      refine HC.out.mono ?_
      rintro e w3 ⟨rfl, hr2, hg2⟩
      have hT2 := Turn.of_grown hg2 (X := vrX pa pr) (Or.inl rfl)
      have HV3 := Lib.hid (HV2.out.read hr2 hg2)
      have HT3 := Lib.hid (HT2.out.trans hT2)
      have HZ3 := Lib.hid (turn_stays hT2 HZ2.out (by omega) (by omega))
      clear hr2 hg2 hT2 HC b0 b1 b2 HV2 HT2 HZ2
      have b0 : w3.cell? ⟨pr, 0, none⟩ = some (rdAcc ps pa) := HV3.out.obj.cell 0
      have b1 : w3.cell? ⟨pr, 1, none⟩ = some (rdTak ps pa) := HV3.out.obj.cell 1
      have b2 : w3.cell? ⟨pr, 2, none⟩ = some (rdEnd ps pa) := HV3.out.obj.cell 2
      cases hx2 : eats [123] (restOf s j) with
      | some r =>
        obtain ⟨hle, rfl⟩ := eats_rest (p := ⟨#[123]⟩) HV3.out.rd.le hx2
        have HC := Lib.hid (accE_yes ps pa j s ⟨#[123]⟩ _ w3 HV3.out.rd hs hx2)
        have E2 := Lib.hid hx2
        clear hx2
        go_wp2_with fail
        refine HC.out.mono ?_
        rintro e w4 ⟨rfl, hr2, hg2⟩
        have hT2 := Turn.of_grown hg2 (X := vrX pa pr) (Or.inl rfl)
        have HV4 := Lib.hid (HV3.out.read hr2 hg2)
        have HT4 := Lib.hid (HT3.out.trans hT2)
        have HZ4 := Lib.hid (turn_stays hT2 HZ3.out (by omega) (by omega))
        clear hr2 hg2 hT2 HC b0 b1 b2 HV3 HT3 HZ3
        have b0 : w4.cell? ⟨pr, 0, none⟩ = some (rdAcc ps pa) := HV4.out.obj.cell 0
        have b1 : w4.cell? ⟨pr, 1, none⟩ = some (rdTak ps pa) := HV4.out.obj.cell 1
        have b2 : w4.cell? ⟨pr, 2, none⟩ = some (rdEnd ps pa) := HV4.out.obj.cell 2
        have HX := Lib.hid (show rdVa (n + 1) (restOf s j) = rdRec (rdVa n) (restOf s (j + (⟨#[123]⟩ : ByteArray).size)) by simp only [rdVa, ← eats_one, E0.out, E1.out, E2.out])
        have HCV := Lib.hid (HRE.out B w4 ps pa pr _ s HV4.out hs)
        clear b0 b1 b2
        go_wp2_with fail
        refine HCV.out.mono ?_
        rintro e w3 ⟨k, n0, nm, L, nl, lc, A, na, ac, ok, j3, m3, rfl, hv3, hT3, hor⟩
        have HV3 := Lib.hid hv3
        have HT3 := Lib.hid (HT4.out.trans hT3)
        have HZ3 := Lib.hid (turn_stays hT3 HZ4.out (by omega) (by omega))
        have HOR := Lib.hid hor
        have hsz3 := HT4.out.size
        have hzl := HZ4.out.lt
        clear hv3 hT3 hor HCV
        have d0 : w3.cell? ⟨w.heap.size, 0, none⟩ = some (.int .i64 0) := HZ3.out.cell 0
        have d1 : w3.cell? ⟨w.heap.size, 1, none⟩ = some (.int .i64 0) := HZ3.out.cell 1
        have d2 : w3.cell? ⟨w.heap.size, 2, none⟩ = some (.string ⟨#[]⟩) := HZ3.out.cell 2
        have d3 : w3.cell? ⟨w.heap.size, 3, none⟩ = some (.slice none 0 0) := HZ3.out.cell 3
        have d4 : w3.cell? ⟨w.heap.size, 4, none⟩ = some (.slice none 0 0) := HZ3.out.cell 4
        have f0 : w3.frozen? ⟨w.heap.size, 0, none⟩ = false := HZ3.out.free 0
        have f1 : w3.frozen? ⟨w.heap.size, 1, none⟩ = false := HZ3.out.free 1
        have f2 : w3.frozen? ⟨w.heap.size, 2, none⟩ = false := HZ3.out.free 2
        have f3 : w3.frozen? ⟨w.heap.size, 3, none⟩ = false := HZ3.out.free 3
        have f4 : w3.frozen? ⟨w.heap.size, 4, none⟩ = false := HZ3.out.free 4
        go_wp2
        refine bodyPost_ret (v := .tuple #[.agg #[.int .i64 k, .int .i64 n0, .string nm, .slice L nl lc, .slice A na ac], .bool ok]) (by simp [results, Tryd.results29, go_sem, d0, d1, d2, d3, d4]) rfl ⟨k, n0, nm, L, nl, lc, A, na, ac, ok, j3, m3, rfl, HV3.out.below (set5_below _ _ _ _ _ _ _) hl1 hl2 hl3, HT3.out.below (set5_below _ _ _ _ _ _ _) (Nat.le_refl _), ?_⟩
        rw [HX.out]
        rcases HOR.out with ⟨h1, h2⟩ | ⟨h1, t, h2, h3, h4, h5⟩
        · exact Or.inl ⟨h1, h2⟩
        · exact Or.inr ⟨h1, t, h2, h3, h4, (h5.set5 _ hzl _ _ _ _ _).base (by omega)⟩
      | none =>
        have HC := Lib.hid (accE_no ps pa j s ⟨#[123]⟩ w3 HV3.out.rd hx2)
        have E2 := Lib.hid hx2
        clear hx2
        go_wp2_with fail
        refine HC.out.mono ?_
        rintro e w4 ⟨rfl, hr2, hg2⟩
        have hT2 := Turn.of_grown hg2 (X := vrX pa pr) (Or.inl rfl)
        have HV4 := Lib.hid (HV3.out.read hr2 hg2)
        have HT4 := Lib.hid (HT3.out.trans hT2)
        have HZ4 := Lib.hid (turn_stays hT2 HZ3.out (by omega) (by omega))
        clear hr2 hg2 hT2 HC b0 b1 b2 HV3 HT3 HZ3
        have b0 : w4.cell? ⟨pr, 0, none⟩ = some (rdAcc ps pa) := HV4.out.obj.cell 0
        have b1 : w4.cell? ⟨pr, 1, none⟩ = some (rdTak ps pa) := HV4.out.obj.cell 1
        have b2 : w4.cell? ⟨pr, 2, none⟩ = some (rdEnd ps pa) := HV4.out.obj.cell 2
        cases hx3 : eats [60] (restOf s j) with
        | some r =>
          obtain ⟨hle, rfl⟩ := eats_rest (p := ⟨#[60]⟩) HV4.out.rd.le hx3
          have HC := Lib.hid (accE_yes ps pa j s ⟨#[60]⟩ _ w4 HV4.out.rd hs hx3)
          have E3 := Lib.hid hx3
          clear hx3
          go_wp2_with fail
          refine HC.out.mono ?_
          rintro e w5 ⟨rfl, hr2, hg2⟩
          have hT2 := Turn.of_grown hg2 (X := vrX pa pr) (Or.inl rfl)
          have HV5 := Lib.hid (HV4.out.read hr2 hg2)
          have HT5 := Lib.hid (HT4.out.trans hT2)
          have HZ5 := Lib.hid (turn_stays hT2 HZ4.out (by omega) (by omega))
          clear hr2 hg2 hT2 HC b0 b1 b2 HV4 HT4 HZ4
          have b0 : w5.cell? ⟨pr, 0, none⟩ = some (rdAcc ps pa) := HV5.out.obj.cell 0
          have b1 : w5.cell? ⟨pr, 1, none⟩ = some (rdTak ps pa) := HV5.out.obj.cell 1
          have b2 : w5.cell? ⟨pr, 2, none⟩ = some (rdEnd ps pa) := HV5.out.obj.cell 2
          have E9 := Lib.hid (show eats [91] (restOf s j) = none by rw [eats_one]; exact eat_two (e := 60) (by decide) ((eats_one 60 _).symm.trans E3.out))
          have HX := Lib.hid (show rdVa (n + 1) (restOf s j) = rdTag (rdVa n) (restOf s (j + (⟨#[60]⟩ : ByteArray).size)) by simp only [rdVa, ← eats_one, E0.out, E1.out, E2.out, E9.out, E3.out])
          have HCV := Lib.hid (HCA.out B w5 ps pa pr _ s HV5.out hs)
          clear b0 b1 b2
          go_wp2_with fail
          refine HCV.out.mono ?_
          rintro e w3 ⟨k, n0, nm, L, nl, lc, A, na, ac, ok, j3, m3, rfl, hv3, hT3, hor⟩
          have HV3 := Lib.hid hv3
          have HT3 := Lib.hid (HT5.out.trans hT3)
          have HZ3 := Lib.hid (turn_stays hT3 HZ5.out (by omega) (by omega))
          have HOR := Lib.hid hor
          have hsz3 := HT5.out.size
          have hzl := HZ5.out.lt
          clear hv3 hT3 hor HCV
          have d0 : w3.cell? ⟨w.heap.size, 0, none⟩ = some (.int .i64 0) := HZ3.out.cell 0
          have d1 : w3.cell? ⟨w.heap.size, 1, none⟩ = some (.int .i64 0) := HZ3.out.cell 1
          have d2 : w3.cell? ⟨w.heap.size, 2, none⟩ = some (.string ⟨#[]⟩) := HZ3.out.cell 2
          have d3 : w3.cell? ⟨w.heap.size, 3, none⟩ = some (.slice none 0 0) := HZ3.out.cell 3
          have d4 : w3.cell? ⟨w.heap.size, 4, none⟩ = some (.slice none 0 0) := HZ3.out.cell 4
          have f0 : w3.frozen? ⟨w.heap.size, 0, none⟩ = false := HZ3.out.free 0
          have f1 : w3.frozen? ⟨w.heap.size, 1, none⟩ = false := HZ3.out.free 1
          have f2 : w3.frozen? ⟨w.heap.size, 2, none⟩ = false := HZ3.out.free 2
          have f3 : w3.frozen? ⟨w.heap.size, 3, none⟩ = false := HZ3.out.free 3
          have f4 : w3.frozen? ⟨w.heap.size, 4, none⟩ = false := HZ3.out.free 4
          go_wp2
          refine bodyPost_ret (v := .tuple #[.agg #[.int .i64 k, .int .i64 n0, .string nm, .slice L nl lc, .slice A na ac], .bool ok]) (by simp [results, Tryd.results29, go_sem, d0, d1, d2, d3, d4]) rfl ⟨k, n0, nm, L, nl, lc, A, na, ac, ok, j3, m3, rfl, HV3.out.below (set5_below _ _ _ _ _ _ _) hl1 hl2 hl3, HT3.out.below (set5_below _ _ _ _ _ _ _) (Nat.le_refl _), ?_⟩
          rw [HX.out]
          rcases HOR.out with ⟨h1, h2⟩ | ⟨h1, t, h2, h3, h4, h5⟩
          · exact Or.inl ⟨h1, h2⟩
          · exact Or.inr ⟨h1, t, h2, h3, h4, (h5.set5 _ hzl _ _ _ _ _).base (by omega)⟩
        | none =>
          have HC := Lib.hid (accE_no ps pa j s ⟨#[60]⟩ w4 HV4.out.rd hx3)
          have E3 := Lib.hid hx3
          clear hx3
          go_wp2_with fail
          refine HC.out.mono ?_
          rintro e w5 ⟨rfl, hr2, hg2⟩
          have hT2 := Turn.of_grown hg2 (X := vrX pa pr) (Or.inl rfl)
          have HV5 := Lib.hid (HV4.out.read hr2 hg2)
          have HT5 := Lib.hid (HT4.out.trans hT2)
          have HZ5 := Lib.hid (turn_stays hT2 HZ4.out (by omega) (by omega))
          clear hr2 hg2 hT2 HC b0 b1 b2 HV4 HT4 HZ4
          have b0 : w5.cell? ⟨pr, 0, none⟩ = some (rdAcc ps pa) := HV5.out.obj.cell 0
          have b1 : w5.cell? ⟨pr, 1, none⟩ = some (rdTak ps pa) := HV5.out.obj.cell 1
          have b2 : w5.cell? ⟨pr, 2, none⟩ = some (rdEnd ps pa) := HV5.out.obj.cell 2
          cases hx4 : eats [91] (restOf s j) with
          | some r =>
            obtain ⟨hle, rfl⟩ := eats_rest (p := ⟨#[91]⟩) HV5.out.rd.le hx4
            have HC := Lib.hid (accE_yes ps pa j s ⟨#[91]⟩ _ w5 HV5.out.rd hs hx4)
            have E4 := Lib.hid hx4
            clear hx4
            go_wp2_with fail
            refine HC.out.mono ?_
            rintro e w6 ⟨rfl, hr2, hg2⟩
            have hT2 := Turn.of_grown hg2 (X := vrX pa pr) (Or.inl rfl)
            have HV6 := Lib.hid (HV5.out.read hr2 hg2)
            have HT6 := Lib.hid (HT5.out.trans hT2)
            have HZ6 := Lib.hid (turn_stays hT2 HZ5.out (by omega) (by omega))
            clear hr2 hg2 hT2 HC b0 b1 b2 HV5 HT5 HZ5
            have b0 : w6.cell? ⟨pr, 0, none⟩ = some (rdAcc ps pa) := HV6.out.obj.cell 0
            have b1 : w6.cell? ⟨pr, 1, none⟩ = some (rdTak ps pa) := HV6.out.obj.cell 1
            have b2 : w6.cell? ⟨pr, 2, none⟩ = some (rdEnd ps pa) := HV6.out.obj.cell 2
            have HX := Lib.hid (show rdVa (n + 1) (restOf s j) = rdList (rdVa n) (restOf s (j + (⟨#[91]⟩ : ByteArray).size)) by simp only [rdVa, ← eats_one, E0.out, E1.out, E2.out, E4.out])
            have HCV := Lib.hid (HLI.out B w6 ps pa pr _ s HV6.out hs)
            clear b0 b1 b2
            go_wp2_with fail
            refine HCV.out.mono ?_
            rintro e w3 ⟨k, n0, nm, L, nl, lc, A, na, ac, ok, j3, m3, rfl, hv3, hT3, hor⟩
            have HV3 := Lib.hid hv3
            have HT3 := Lib.hid (HT6.out.trans hT3)
            have HZ3 := Lib.hid (turn_stays hT3 HZ6.out (by omega) (by omega))
            have HOR := Lib.hid hor
            have hsz3 := HT6.out.size
            have hzl := HZ6.out.lt
            clear hv3 hT3 hor HCV
            have d0 : w3.cell? ⟨w.heap.size, 0, none⟩ = some (.int .i64 0) := HZ3.out.cell 0
            have d1 : w3.cell? ⟨w.heap.size, 1, none⟩ = some (.int .i64 0) := HZ3.out.cell 1
            have d2 : w3.cell? ⟨w.heap.size, 2, none⟩ = some (.string ⟨#[]⟩) := HZ3.out.cell 2
            have d3 : w3.cell? ⟨w.heap.size, 3, none⟩ = some (.slice none 0 0) := HZ3.out.cell 3
            have d4 : w3.cell? ⟨w.heap.size, 4, none⟩ = some (.slice none 0 0) := HZ3.out.cell 4
            have f0 : w3.frozen? ⟨w.heap.size, 0, none⟩ = false := HZ3.out.free 0
            have f1 : w3.frozen? ⟨w.heap.size, 1, none⟩ = false := HZ3.out.free 1
            have f2 : w3.frozen? ⟨w.heap.size, 2, none⟩ = false := HZ3.out.free 2
            have f3 : w3.frozen? ⟨w.heap.size, 3, none⟩ = false := HZ3.out.free 3
            have f4 : w3.frozen? ⟨w.heap.size, 4, none⟩ = false := HZ3.out.free 4
            go_wp2
            refine bodyPost_ret (v := .tuple #[.agg #[.int .i64 k, .int .i64 n0, .string nm, .slice L nl lc, .slice A na ac], .bool ok]) (by simp [results, Tryd.results29, go_sem, d0, d1, d2, d3, d4]) rfl ⟨k, n0, nm, L, nl, lc, A, na, ac, ok, j3, m3, rfl, HV3.out.below (set5_below _ _ _ _ _ _ _) hl1 hl2 hl3, HT3.out.below (set5_below _ _ _ _ _ _ _) (Nat.le_refl _), ?_⟩
            rw [HX.out]
            rcases HOR.out with ⟨h1, h2⟩ | ⟨h1, t, h2, h3, h4, h5⟩
            · exact Or.inl ⟨h1, h2⟩
            · exact Or.inr ⟨h1, t, h2, h3, h4, (h5.set5 _ hzl _ _ _ _ _).base (by omega)⟩
          | none =>
            have HC := Lib.hid (accE_no ps pa j s ⟨#[91]⟩ w5 HV5.out.rd hx4)
            have E4 := Lib.hid hx4
            clear hx4
            go_wp2_with fail
            refine HC.out.mono ?_
            rintro e w6 ⟨rfl, hr2, hg2⟩
            have hT2 := Turn.of_grown hg2 (X := vrX pa pr) (Or.inl rfl)
            have HV6 := Lib.hid (HV5.out.read hr2 hg2)
            have HT6 := Lib.hid (HT5.out.trans hT2)
            have HZ6 := Lib.hid (turn_stays hT2 HZ5.out (by omega) (by omega))
            clear hr2 hg2 hT2 HC b0 b1 b2 HV5 HT5 HZ5
            have b0 : w6.cell? ⟨pr, 0, none⟩ = some (rdAcc ps pa) := HV6.out.obj.cell 0
            have b1 : w6.cell? ⟨pr, 1, none⟩ = some (rdTak ps pa) := HV6.out.obj.cell 1
            have b2 : w6.cell? ⟨pr, 2, none⟩ = some (rdEnd ps pa) := HV6.out.obj.cell 2
            have HX := Lib.hid (show rdVa (n + 1) (restOf s j) = rdIntV (restOf s j) by simp only [rdVa, ← eats_one, E0.out, E1.out, E2.out, E3.out, E4.out])
            have HC := Lib.hid (takeRun_any 78 enters_int intR intC intR_byte intR_high pred_int ps pa j s w6 HV6.out.rd hs)
            go_wp2_with fail
            refine HC.out.mono ?_
            rintro e w8 ⟨k1, hk1, ⟨rfl, hr1, hg1⟩, hd1, ht1⟩
            have hT1 := Turn.of_grown hg1 (X := vrX pa pr) (Or.inl rfl)
            have HV8 := Lib.hid (HV6.out.read hr1 hg1)
            have HT8 := Lib.hid (HT6.out.trans hT1)
            have HZ8 := Lib.hid (turn_stays hT1 HZ6.out (by omega) (by omega))
            have hwz : (s.extract j k1).size ≤ 1048576 := by rw [ByteArray.size_extract]; omega
            have hwd : (s.extract j k1).data.toList = (restOf s j).takeWhile intC := by rw [← ht1]
            have HD := Lib.hid hd1
            clear hr1 hg1 hT1 HC hd1 ht1 b0 b1 b2 HV6 HT6 HZ6
            have hnb : 3 < w8.heap.size := by
              have h1 := HV8.out.nums.b1
              have h2 := HV8.out.ls
              have h3 := HV8.out.lts
              omega
            cases hu : unItoa ((restOf s j).takeWhile intC) with
            | none =>
              have HP := Lib.hid (implParseInt_no (s.extract j k1) w8 hwz (fun z hz1 hz2 he => by rw [← hwd, unItoa_of he hz1 hz2] at hu; cases hu) HV8.out.nums.pow HV8.out.nums.errs hnb)
              have HBAD := Lib.hid (int_no (m + 1) hu)
              clear hu hwd
              go_wp2_with fail
              refine HP.out.mono ?_
              rintro e w9 ⟨rfl, hb9⟩
              have HV9 := Lib.hid (HV8.out.keep hb9)
              have HT9 := Lib.hid (HT8.out.below hb9 HT8.out.size)
              have HZ9 := Lib.hid (HZ8.out.below hb9 HZ8.out.lt)
              clear hb9 HP HV8 HT8 HZ8
              have d0 : w9.cell? ⟨w.heap.size, 0, none⟩ = some (.int .i64 0) := HZ9.out.cell 0
              have d1 : w9.cell? ⟨w.heap.size, 1, none⟩ = some (.int .i64 0) := HZ9.out.cell 1
              have d2 : w9.cell? ⟨w.heap.size, 2, none⟩ = some (.string ⟨#[]⟩) := HZ9.out.cell 2
              have d3 : w9.cell? ⟨w.heap.size, 3, none⟩ = some (.slice none 0 0) := HZ9.out.cell 3
              have d4 : w9.cell? ⟨w.heap.size, 4, none⟩ = some (.slice none 0 0) := HZ9.out.cell 4
              have f0 : w9.frozen? ⟨w.heap.size, 0, none⟩ = false := HZ9.out.free 0
              have f1 : w9.frozen? ⟨w.heap.size, 1, none⟩ = false := HZ9.out.free 1
              have f2 : w9.frozen? ⟨w.heap.size, 2, none⟩ = false := HZ9.out.free 2
              have f3 : w9.frozen? ⟨w.heap.size, 3, none⟩ = false := HZ9.out.free 3
              have f4 : w9.frozen? ⟨w.heap.size, 4, none⟩ = false := HZ9.out.free 4
              go_wp2
              exact bodyPost_ret (v := .tuple #[.agg #[.int .i64 1, .int .i64 0, .string ⟨#[]⟩, .slice none 0 0, .slice none 0 0], .bool false]) (by simp [results, Tryd.results29, go_sem, d0, d1, d2, d3, d4]) rfl ⟨1, 0, ⟨#[]⟩, none, 0, 0, none, 0, 0, false, _, _, rfl, HV9.out.below (set5_below _ _ _ _ _ _ _) hl1 hl2 hl3, HT9.out.below (set5_below _ _ _ _ _ _ _) (Nat.le_refl _), Or.inl ⟨rfl, by rw [HX.out]; exact HBAD.out⟩⟩
            | some z =>
              have hz := unItoa_some hu
              have HP := Lib.hid (implParseInt_yes (s.extract j k1) z w8 hwz hz.2.1 hz.2.2 (hwd.trans hz.1) HV8.out.nums.pow hnb)
              have HXI := Lib.hid (HX.out.trans (int_yes hu))
              clear hu hz hwd
              go_wp2_with fail
              refine HP.out.mono ?_
              rintro e w9 ⟨rfl, hb9⟩
              have HV9 := Lib.hid (HV8.out.keep hb9)
              have HT9 := Lib.hid (HT8.out.below hb9 HT8.out.size)
              have HZ9 := Lib.hid (HZ8.out.below hb9 HZ8.out.lt)
              clear hb9 HP HV8 HT8 HZ8
              have d0 : w9.cell? ⟨w.heap.size, 0, none⟩ = some (.int .i64 0) := HZ9.out.cell 0
              have d1 : w9.cell? ⟨w.heap.size, 1, none⟩ = some (.int .i64 0) := HZ9.out.cell 1
              have d2 : w9.cell? ⟨w.heap.size, 2, none⟩ = some (.string ⟨#[]⟩) := HZ9.out.cell 2
              have d3 : w9.cell? ⟨w.heap.size, 3, none⟩ = some (.slice none 0 0) := HZ9.out.cell 3
              have d4 : w9.cell? ⟨w.heap.size, 4, none⟩ = some (.slice none 0 0) := HZ9.out.cell 4
              have f0 : w9.frozen? ⟨w.heap.size, 0, none⟩ = false := HZ9.out.free 0
              have f1 : w9.frozen? ⟨w.heap.size, 1, none⟩ = false := HZ9.out.free 1
              have f2 : w9.frozen? ⟨w.heap.size, 2, none⟩ = false := HZ9.out.free 2
              have f3 : w9.frozen? ⟨w.heap.size, 3, none⟩ = false := HZ9.out.free 3
              have f4 : w9.frozen? ⟨w.heap.size, 4, none⟩ = false := HZ9.out.free 4
              go_wp2
              exact bodyPost_ret (v := .tuple #[.agg #[.int .i64 1, .int .i64 z, .string ⟨#[]⟩, .slice none 0 0, .slice none 0 0], .bool true]) (by simp [results, Tryd.results29, go_sem, d0, d1, d2, d3, d4]) rfl ⟨1, z, ⟨#[]⟩, none, 0, 0, none, 0, 0, true, _, _, rfl, HV9.out.below (set5_below _ _ _ _ _ _ _) hl1 hl2 hl3, HT9.out.below (set5_below _ _ _ _ _ _ _) (Nat.le_refl _), Or.inr ⟨rfl, .mk 1 z ⟨#[]⟩ [] [], by rw [HXI.out, HD.out], by rw [sizeVa, sizeVas]; omega, by rw [sizeVa, sizeVas]; omega, OwnVa.leaf _ _ _ _ _ (by decide)⟩⟩
end Go.Proofs.YtceclhndagoddaaDoor
end
