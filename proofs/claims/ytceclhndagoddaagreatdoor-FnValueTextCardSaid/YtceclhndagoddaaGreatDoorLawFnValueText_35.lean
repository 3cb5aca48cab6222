/- Lemmas: RLoop, RFun2, RSeq. -/
import Derived.Test.YtceclhndagoddaaGreatDoorLawFnValueText_33
import Derived.OrdersIn
import Derived.RegionIn
import Derived.Test.YtceclhndagoddaaGreatDoorLawFnValueText_27
import Derived.Test.YtceclhndagoddaaGreatDoorLawFnValueText_34

section
namespace Go.Proofs.YtceclhndagoddaaGreatDoor
open Go Go.RowKit

section
variable {β : Type}
/-- What is left of the parts, the closing sign with it. -/
def rdLoop (f : List UInt8 → Option (β × List UInt8)) (e : UInt8) (k : Nat) (l : List UInt8) : Option (List β × List UInt8) :=
  match rdSeq f k l with
  | none => none
  | some (us, q) => match eat e q with
    | none => none
    | some r => some (us, r)
theorem seqE_yes {f : List UInt8 → Option (β × List UInt8)} {e : UInt8} {l r : List UInt8} (h : eat e l = some r) : rdSeqE f e l = some ([], r) := by
  unfold rdSeqE
  rw [h]
theorem seqE_no {f : List UInt8 → Option (β × List UInt8)} {e : UInt8} {l : List UInt8} (h : eat e l = none) : rdSeqE f e l = rdLoop f e (l.length + 1) l := by
  unfold rdSeqE rdLoop
  rw [h]
  rfl
abbrev szs (sz : β → Nat) (us : List β) : Nat := (us.map sz).sum
abbrev BadL (good : β → Bool) (sz : β → Nat) (m : Nat) (x : Option (List β × List UInt8)) : Prop := Bad (fun us : List β => us.all good) (szs sz) m x
theorem loop_bad {f : List UInt8 → Option (β × List UInt8)} {e : UInt8} {good : β → Bool} {sz : β → Nat} {m k : Nat} {l : List UInt8} (he : intC e = false) (h : Bad good sz m (f l)) : BadL good sz m (rdLoop f e (k + 1) l) := by
  intro us q hx
  unfold rdLoop at hx
  rw [rdSeq] at hx
  cases hf : f l with
  | none =>
    rw [hf] at hx
    cases hx
  | some p =>
    obtain ⟨a, r⟩ := p
    rw [hf] at hx
    simp only at hx
    have hb := h a r hf
    cases h44 : eat 44 r with
    | none =>
      rw [h44] at hx
      simp only at hx
      cases hee : eat e r with
      | none =>
        rw [hee] at hx
        cases hx
      | some r3 =>
        rw [hee] at hx
        simp only [Option.some.injEq, Prod.mk.injEq] at hx
        obtain ⟨rfl, rfl⟩ := hx
        rcases hb with h1 | h1 | h1
        · exact Or.inl (by simp [h1])
        · exact Or.inr (Or.inl (by simpa [szs] using h1))
        · rw [eat_head he h1] at hee
          cases hee
    | some r2 =>
      rw [h44] at hx
      simp only at hx
      cases hs : rdSeq f k r2 with
      | none =>
        rw [hs] at hx
        cases hx
      | some p2 =>
        obtain ⟨vs, q2⟩ := p2
        rw [hs] at hx
        simp only at hx
        cases hee : eat e q2 with
        | none =>
          rw [hee] at hx
          cases hx
        | some r3 =>
          rw [hee] at hx
          simp only [Option.some.injEq, Prod.mk.injEq] at hx
          obtain ⟨rfl, rfl⟩ := hx
          rcases hb with h1 | h1 | h1
          · exact Or.inl (by simp [h1])
          · refine Or.inr (Or.inl ?_)
            simp only [szs, List.map_cons, List.sum_cons]
            omega
          · rw [eat_head (by decide) h1] at h44
            cases h44
theorem eat_two {e d : UInt8} (hne : e ≠ d) {r q : List UInt8} (h : eat e r = some q) : eat d r = none := by
  cases r with
  | nil => rfl
  | cons c t =>
    by_cases hc : c = e
    · subst hc
      exact eat_other _ hne
    · rw [eat_other _ hc] at h
      cases h
theorem loop_end {f : List UInt8 → Option (β × List UInt8)} {e : UInt8} {k : Nat} {l r q : List UInt8} {a : β} (hne : e ≠ 44) (hf : f l = some (a, r)) (hee : eat e r = some q) : rdLoop f e (k + 1) l = some ([a], q) := by
  unfold rdLoop
  rw [rdSeq, hf]
  simp only [eat_two hne hee, hee]
theorem loop_none {f : List UInt8 → Option (β × List UInt8)} {e : UInt8} {k : Nat} {l r : List UInt8} {a : β} (hf : f l = some (a, r)) (hee : eat e r = none) (h44 : eat 44 r = none) : rdLoop f e (k + 1) l = none := by
  unfold rdLoop
  rw [rdSeq, hf]
  simp only [h44, hee]
/-- Parts read already, ahead of what is left. -/
def ahead (pre : List β) (x : Option (List β × List UInt8)) : Option (List β × List UInt8) := x.map fun p => (pre ++ p.1, p.2)
theorem ahead_nil (x : Option (List β × List UInt8)) : ahead [] x = x := by
  cases x <;> simp [ahead]
theorem loop_next {f : List UInt8 → Option (β × List UInt8)} {e : UInt8} {k : Nat} {l r r2 : List UInt8} {a : β} (pre : List β) (hf : f l = some (a, r)) (h44 : eat 44 r = some r2) : ahead pre (rdLoop f e (k + 1) l) = ahead (pre ++ [a]) (rdLoop f e k r2) := by
  unfold rdLoop
  rw [rdSeq, hf]
  simp only [h44]
  cases rdSeq f k r2 with
  | none => rfl
  | some p =>
    obtain ⟨us, q⟩ := p
    simp only
    cases eat e q with
    | none => rfl
    | some r3 => simp [ahead]
theorem ahead_bad {good : β → Bool} {sz : β → Nat} {m : Nat} (pre : List β) {x : Option (List β × List UInt8)} (hm : szs sz pre ≤ m) (h : BadL good sz (m - szs sz pre) x) : BadL good sz m (ahead pre x) := by
  intro us q hx
  cases x with
  | none => cases hx
  | some p =>
    obtain ⟨vs, r⟩ := p
    simp only [ahead, Option.map_some, Option.some.injEq, Prod.mk.injEq] at hx
    obtain ⟨rfl, rfl⟩ := hx
    rcases h vs r rfl with h1 | h1 | h1
    · have h2 : vs.all good = false := h1
      exact Or.inl (show (pre ++ vs).all good = false by rw [List.all_append, h2, Bool.and_false])
    · refine Or.inr (Or.inl ?_)
      simp only [szs, List.map_append, List.sum_append] at h1 hm ⊢
      omega
    · exact Or.inr (Or.inr h1)
end

section
variable {P : Program} {md : Region.Mode} {ops : Array Oper} {Q : Exit → Act → World → Prop} {n l : Nat}
theorem opIn_of_wp {o : Oper} {K : Act → World → Prop} {a : Act} {w : World} (hd : ∀ c, o.op ≠ .defer c) (h : o.wp P a w K Q) : o.wpIn (Fence.wide.inRound l) n P a w K Q := by
  refine ⟨fun f _ => trivial, ?_⟩
  unfold Oper.wp at h
  rw [Oper.semAt_eq _ _ _ hd]
  generalize (execOp a.eval o).run P w = r at *
  cases r with
  | ok nx w' =>
    cases nx with
    | enter f args => exact ⟨fun hh => by simp [Fence.wide] at hh, callsIn_wide.2 h⟩
    | row r args =>
      refine ⟨fun hh => by simp [Fence.wide] at hh, fun c cs _ => ?_⟩
      obtain ⟨v, w2, h1, h2⟩ := h c cs
      exact ⟨v, w2, h1, stepsIn_wide.2 h2⟩
    | _ => first | exact h | exact h.elim
  | halt s w' => cases s <;> first | exact h | exact h.elim
theorem anyIn_of_any (hd : ∀ (i : Nat) (o : Oper), ops[i]? = some o → ∀ c, o.op ≠ .defer c) (hQ : ¬ LetsOut Q) : ∀ (f : Nat) (listed : Array Bool) (a : Act) (w : World), wpAny P md ops Q f listed a w → wpAnyIn (Fence.wide.inRound l) n P md ops Q f listed a w
  | 0, _, _, _, h => h
  | f + 1, listed, a, w, h => by
    refine ⟨h.1, fun i hi => ?_⟩
    have hop := h.2 i hi
    unfold wpOp at hop
    unfold wpOpIn
    cases ho : ops[i]? with
    | none =>
      rw [ho] at hop
      exact anyIn_of_any hd hQ f _ _ _ hop
    | some o =>
      rw [ho] at hop
      simp only at hop ⊢
      by_cases hw : Region.wanted o (yielded ops a.tmps) = true
      · rw [if_pos hw] at hop ⊢
        rcases hop with hop | ⟨_, hop⟩
        · exact opIn_of_wp (hd i o ho) (Oper.wp_mono (fun a' w' h' => anyIn_of_any hd hQ f _ a' w' h') hop)
        · exact absurd hop hQ
      · rw [if_neg hw] at hop ⊢
        exact ⟨fun f _ => trivial, anyIn_of_any hd hQ f _ _ _ hop⟩
def noDefer (ops : Array Oper) : Bool := ops.all fun o => match o.op with | .defer _ => false | _ => true
theorem noDefer_spec (h : noDefer ops = true) : ∀ (i : Nat) (o : Oper), ops[i]? = some o → ∀ c, o.op ≠ .defer c := fun i o ho c e => by
  have h1 := Array.all_eq_true'.1 h o (Array.mem_of_getElem? ho)
  rw [e] at h1
  cases h1
/-- A region that draws, within a round: by the law outside of it. -/
theorem region_round {id : Nat} {a : Act} {w : World} (hm : P.follows .mixedOrders = true) (hd : noDefer ops = true) (hQ : ¬ LetsOut Q) (h : wpAny P .any ops Q ops.size (Array.replicate ops.size false) a w.drew) : (Code.region id ops true).wpIn (Fence.wide.inRound l) n P Q a w :=
  wpIn_region_any hm (anyIn_of_any (noDefer_spec hd) hQ _ _ _ _ h)
end
end Go.Proofs.YtceclhndagoddaaGreatDoor
end

section
namespace Go.Proofs.YtceclhndagoddaaGreatDoor
open Go Go.RowKit

/-- All below n is kept but what Y says. -/
structure BelowX (Y : Nat → Prop) (n : Nat) (w w' : World) : Prop where
  os : w'.os = w.os
  tape : w'.tape = w.tape
  output : w'.output = w.output
  size : w.heap.size ≤ w'.heap.size
  block : ∀ i, i < n → ¬ Y i → w'.heap[i]? = w.heap[i]?
theorem BelowX.of {Y : Nat → Prop} {n : Nat} {w w' : World} (h : Below n w w') : BelowX Y n w w' := ⟨h.os, h.tape, h.output, h.size, fun i hi _ => h.block i hi⟩
theorem BelowX.refl (Y : Nat → Prop) (n : Nat) (w : World) : BelowX Y n w w := ⟨rfl, rfl, rfl, Nat.le_refl _, fun _ _ _ => rfl⟩
theorem BelowX.trans {Y : Nat → Prop} {n : Nat} {a b c : World} (h : BelowX Y n a b) (k : BelowX Y n b c) : BelowX Y n a c :=
  ⟨k.os.trans h.os, k.tape.trans h.tape, k.output.trans h.output, Nat.le_trans h.size k.size, fun i hi hy => (k.block i hi hy).trans (h.block i hi hy)⟩
theorem BelowX.set {Y : Nat → Prop} {n : Nat} {a b : World} (h : BelowX Y n a b) {p : Addr} (hp : n ≤ p.block ∨ Y p.block) (v : Value) : BelowX Y n a (b.setCell p v) :=
  ⟨h.os, h.tape, h.output, by simpa [World.setCell] using h.size, fun i hi hy => (Below.heap_setCell _ _ _ _ (fun e => by
    subst e
    rcases hp with hp | hp
    · omega
    · exact hy hp)).trans (h.block i hi hy)⟩

/-- What the body's walk keeps. -/
structure KeptY (Y : Nat → Prop) (n0 D l : Nat) (B C : World) : Prop where
  defers : C.heap[D]? = B.heap[D]?
  loop : C.heap[l]? = B.heap[l]?
  below : BelowX Y n0 B C
theorem KeptY.refl (Y : Nat → Prop) (n0 D l : Nat) (B : World) : KeptY Y n0 D l B B := ⟨rfl, rfl, BelowX.refl _ _ _⟩
theorem KeptY.trans {Y : Nat → Prop} {n0 D l : Nat} {a b c : World} (h : KeptY Y n0 D l a b) (k : KeptY Y n0 D l b c) : KeptY Y n0 D l a c := ⟨k.defers.trans h.defers, k.loop.trans h.loop, h.below.trans k.below⟩
/-- How the body of a round may be left: off its end, or by a return. -/
def roundLeftY (Y : Nat → Prop) (n0 D l : Nat) (B : World) (G Gx : World → Prop) : Exit → Act → World → Prop
  | .normal, _, C => KeptY Y n0 D l B C ∧ G C
  | .ret, _, C => KeptY Y n0 D l B C ∧ Gx C
  | _, _, _ => False

variable {F : Fence} {n : Nat} {P : Program} {α : Type}
/-- The contract of an iterator that turns blocks of X alone; Px: what it says of what it hands over; S, Sp: what stands in the end. -/
def SeqTurnY (Y : Nat → Prop) (F : Fence) (n : Nat) (P : Program) (gf : Nat) (lb : Array Value) (encs : α → Array Value) (X : Nat → Prop) (Px : List α → World → α → World → Prop) (S Sp : List α → World → Prop) (w : World) : Prop :=
  ∀ (l : Nat) (J Jx : List α → World → Prop) (W : World), Below w.heap.size w W →
    (∀ pre x A B, J pre A → Turn X A B → Px pre A x B → YieldAt F (n - 1) P l (encs x) B fun e C =>
      (e = .returned (.bool true) ∧ J (pre ++ [x]) C ∧ BelowX Y w.heap.size B C) ∨ (e = .returned (.bool false) ∧ Jx (pre ++ [x]) C ∧ BelowX Y w.heap.size B C)) →
    J [] W →
    CallsIn F n P gf (#[.func (.yield l) #[] #[]] ++ lb) W fun e C => (∃ v, e = .returned v) ∧ ((∃ xs A, J xs A ∧ Turn X A C ∧ S xs C) ∨ (∃ pre A, Jx pre A ∧ Turn X A C ∧ Sp pre C))

theorem rangeFunc_turnY {Y : Nat → Prop} {g : Operand} {ps : Array Tmp} {assign body : Code} {Q : Exit → Act → World → Prop} {a : Act} {w : World}
    (hro : F.round = none) (h1 : 1 ≤ n) {gf : Nat} {lb : Array Value} (hg : a.eval g = .func (.func gf) #[] lb) (hFg : F.fn gf) (eg : ∀ args w, (callFunc gf args).run P w = .ok (.enter gf args) w)
    {encs : α → Array Value} (hps : ∀ x, (encs x).size = ps.size) {X : Nat → Prop} (hX : ∀ i, X i → i < w.heap.size) {Px : List α → World → α → World → Prop} {S Sp : List α → World → Prop} {w0 : World} (hw0 : Below w0.heap.size w0 w)
    (hseq : SeqTurnY Y F (n - 1) P gf lb encs X Px S Sp w0) (I Ix : List α → World → Prop)
    (hI : ∀ pre A C, I pre A → SameBut (w.heap.size + 1) A C → I pre C) (hIx : ∀ pre A C, Ix pre A → SameBut (w.heap.size + 1) A C → Ix pre C)
    (h0 : ∀ W, Below w.heap.size w W → W.heap.size = w.heap.size + 2 → I [] W)
    (hround : ∀ pre x A B, I pre A → Turn X A B → Px pre A x B → w.heap.size + 2 ≤ A.heap.size →
      assign.wpIn (F.inRound (w.heap.size + 1)) (n - 1 - 1) P (Exit.then (fun a₁ B2 => KeptY Y w0.heap.size w.heap.size (w.heap.size + 1) B B2 ∧ ∀ B3, SameBut (w.heap.size + 1) B2 B3 →
        body.wpIn (F.inRound (w.heap.size + 1)) (n - 1 - 1) P (roundLeftY Y w0.heap.size w.heap.size (w.heap.size + 1) B3 (I (pre ++ [x])) (Ix (pre ++ [x]))) a₁ B3) (fun _ _ _ => False))
        { tmps := (ps.zip (encs x)).foldl (fun t (p, v) => t.setIfInBounds p v) a.tmps, defers := [] } B)
    (hdone : ∀ xs A C C', I xs A → Turn X A C → S xs C → SameBut (w.heap.size + 1) C C' → w.heap.size + 2 ≤ A.heap.size → C'.heap[w.heap.size]? = some (.deferred (some [])) → Q .normal { a with defers := { target := .collected w.heap.size, args := #[] } :: a.defers } C')
    (hstop : ∀ pre A C C', Ix pre A → Turn X A C → Sp pre C → SameBut (w.heap.size + 1) C C' → w.heap.size + 2 ≤ A.heap.size → C'.heap[w.heap.size]? = some (.deferred (some [])) → Code.ret.wpIn F n P Q { a with defers := { target := .collected w.heap.size, args := #[] } :: a.defers } C') :
    (Code.rangeFunc g ps assign body).wpIn F n P Q a w := by
  refine wpIn_rangeFunc ?_
  intro fn hfn
  rw [hro]
  obtain ⟨D, hD⟩ : ∃ D, D = w.heap.size := ⟨_, rfl⟩
  obtain ⟨rec, hrec⟩ : ∃ rec : LoopState → Option Code → Loop, rec = fun st pe => { state := st, pending := pe, fn, tmps := a.tmps, params := ps, assign, body, defers := D } := ⟨_, rfl⟩
  obtain ⟨W1, hW1⟩ : ∃ W1, (w.alloc (.deferred (some []))).alloc (.loop (rec .ready none)) = W1 := ⟨_, rfl⟩
  have hs1 : W1.heap.size = D + 2 := by rw [← hW1, hD]; simp
  have hL1 : W1.heap[D + 1]? = some (.loop (rec .ready none)) := by
    have h := World.alloc_heap_new (w.alloc (.deferred (some []))) (.loop (rec .ready none))
    rw [World.size_alloc, hW1] at h
    rw [hD]
    exact h
  have hK1 : W1.heap[D]? = some (.deferred (some [])) := by
    rw [← hW1, hD]
    exact (Below.heap_alloc _ _ _ (by simp)).trans (World.alloc_heap_new w _)
  have hb1 : Below w.heap.size w W1 := by
    rw [← hW1]
    exact ((Below.refl _ w).alloc (Nat.le_refl _) _).alloc (by simp) _
  -- between two rounds
  refine ⟨D + 1, [{ target := .collected D, args := #[] }], W1, { target := .fn (.func gf) lb, args := #[.func (.yield (D + 1)) #[] #[]] }, W1, gf, #[.func (.yield (D + 1)) #[] #[]] ++ lb, W1, ?_, ?_, ?_, ?_, fun _ => h1, ?_⟩
  · rw [← hW1, hrec, hD]
    exact run_enterLoop_outer _ _ _ _ _
  · simp only [resolve, hg]
    simp [go_sem]
  · intro f' hf'
    simp [Target.leads] at hf'
    subst hf'
    exact hFg
  · simp [invoke, go_sem, eg]
  · refine (hseq (D + 1) (fun pre W => I pre W ∧ W.heap[D + 1]? = some (.loop (rec .ready none)) ∧ W.heap[D]? = some (.deferred (some [])) ∧ D + 2 ≤ W.heap.size)
      (fun pre W => Ix pre W ∧ W.heap[D + 1]? = some (.loop (rec .done (some .ret))) ∧ W.heap[D]? = some (.deferred (some [])) ∧ D + 2 ≤ W.heap.size)
      W1 (hw0.trans (hb1.mono hw0.size)) ?_ ⟨h0 W1 hb1 (by rw [hs1, hD]), hL1, hK1, by omega⟩).mono ?_
    · -- one round
      rintro pre x A B ⟨hi, hl, hk, hsz⟩ hT hP
      have hlB : B.heap[D + 1]? = some (.loop (rec .ready none)) := (hT.block _ (by omega) (fun hx => by have := hX _ hx; omega)).trans hl
      have hkB : B.heap[D]? = some (.deferred (some [])) := (hT.block _ (by omega) (fun hx => by have := hX _ hx; omega)).trans hk
      have hy := run_yield (P := P) (args := encs x) hlB (by rw [hrec]; exact hps x)
      rw [hrec] at hy
      have hr := hround pre x A B hi hT hP (by omega)
      rw [← hD] at hr
      refine ⟨fn, _, assign, body, hy, roundIn_of_wpIn hfn (wpIn_mono hr ?_)⟩
      rintro e a₁ B2 he
      cases e with
      | normal =>
        obtain ⟨hkept, hbody⟩ := he
        have hl2 := hkept.loop.trans hlB
        have hk2 := hkept.defers.trans hkB
        have hlt2 : D + 1 < B2.heap.size := (Array.getElem?_eq_some_iff.1 hl2).1
        refine ⟨_, run_beginRound hl2 (by rw [hrec]), ?_⟩
        have hb3 := hbody _ (sameBut_put B2 (D + 1) (.loop { rec .ready none with state := .busy }))
        have hl3 : (B2.putObj (D + 1) (.loop { rec .ready none with state := .busy })).heap[D + 1]? = some (.loop { rec .ready none with state := .busy }) := World.putObj_heap_same hlt2
        have hk3 : (B2.putObj (D + 1) (.loop { rec .ready none with state := .busy })).heap[D]? = some (.deferred (some [])) := (World.putObj_heap_other (by omega)).trans hk2
        have hw3 : Below w0.heap.size B2 (B2.putObj (D + 1) (.loop { rec .ready none with state := .busy })) := ((sameBut_put B2 (D + 1) _).below (B := D) (by omega) (by omega)).mono (by rw [hD]; exact hw0.size)
        refine wpIn_mono hb3 ?_
        rintro e a3 C hp
        have fin : ∀ (jump : Option Code), KeptY Y w0.heap.size D (D + 1) (B2.putObj (D + 1) (.loop { rec .ready none with state := .busy })) C →
            (Instr.endRound (D + 1) jump).run P C = .ok (.bool jump.isNone) (C.putObj (D + 1) (.loop (rec (if jump.isNone then .ready else .done) jump))) ∧
            (C.putObj (D + 1) (.loop (rec (if jump.isNone then .ready else .done) jump))).heap[D + 1]? = some (.loop (rec (if jump.isNone then .ready else .done) jump)) ∧
            (C.putObj (D + 1) (.loop (rec (if jump.isNone then .ready else .done) jump))).heap[D]? = some (.deferred (some [])) ∧ D + 2 ≤ (C.putObj (D + 1) (.loop (rec (if jump.isNone then .ready else .done) jump))).heap.size ∧
            BelowX Y w0.heap.size B (C.putObj (D + 1) (.loop (rec (if jump.isNone then .ready else .done) jump))) := fun jump hkc => by
          have hlc := hkc.loop.trans hl3
          have hltc : D + 1 < C.heap.size := (Array.getElem?_eq_some_iff.1 hlc).1
          have hend := run_endRound (P := P) jump hlc
          rw [hrec] at hend
          refine ⟨?_, World.putObj_heap_same hltc, (World.putObj_heap_other (by omega)).trans (hkc.defers.trans hk3), by simp; omega, ?_⟩
          · rw [hrec]
            exact hend
          · have q0 : BelowX Y w0.heap.size B B2 := hkept.below
            have q1 : BelowX Y w0.heap.size (B2.putObj (D + 1) (.loop { rec .ready none with state := .busy })) C := hkc.below
            have q2 : Below w0.heap.size C (C.putObj (D + 1) (.loop (rec (if jump.isNone then .ready else .done) jump))) := ((sameBut_put C (D + 1) _).below (B := D) (by omega) (by omega)).mono (by rw [hD]; exact hw0.size)
            exact ((q0.trans (BelowX.of hw3)).trans q1).trans (BelowX.of q2)
        cases e with
        | normal =>
          obtain ⟨hkc, hic⟩ := hp
          obtain ⟨f1, f2, f3, f4, f5⟩ := fin none hkc
          exact ⟨_, _, f1, .inl ⟨rfl, ⟨hI _ _ _ hic (by rw [← hD]; exact sameBut_put _ _ _), f2, f3, f4⟩, f5⟩⟩
        | ret =>
          obtain ⟨hkc, hic⟩ := hp
          obtain ⟨f1, f2, f3, f4, f5⟩ := fin (some .ret) hkc
          exact ⟨_, _, f1, .inr ⟨rfl, ⟨hIx _ _ _ hic (by rw [← hD]; exact sameBut_put _ _ _), f2, f3, f4⟩, f5⟩⟩
        | exit id => exact hp.elim
        | goto t => exact hp.elim
        | panic ch => exact hp.elim
        | outgrown => exact hp.elim
      | exit id => exact he.elim
      | goto t => exact he.elim
      | ret => exact he.elim
      | panic ch => exact he.elim
      | outgrown => exact he.elim
    · -- behind the iterator
      rintro e C ⟨⟨v, rfl⟩, (⟨xs, A, ⟨hi, hl, hk, hsz⟩, hT, hS⟩ | ⟨pre, A, ⟨hi, hl, hk, hsz⟩, hT, hS⟩)⟩
      · have hlC : C.heap[D + 1]? = some (.loop (rec .ready none)) := (hT.block _ (by omega) (fun hx => by have := hX _ hx; omega)).trans hl
        have hkC : C.heap[D]? = some (.deferred (some [])) := (hT.block _ (by omega) (fun hx => by have := hX _ hx; omega)).trans hk
        have hend := run_endLoop (P := P) hlC (by rw [hrec]; simp)
        refine ⟨none, _, by rw [hrec] at hend; exact hend, ?_⟩
        have hq := hdone xs A C _ hi hT hS (by rw [← hD]; exact sameBut_put C (D + 1) (.loop { state := .exhausted, pending := none, fn, tmps := a.tmps, params := ps, assign, body, defers := D })) (by omega) (by rw [← hD]; exact (World.putObj_heap_other (by omega)).trans hkC)
        rw [← hD] at hq
        exact hq
      · have hlC : C.heap[D + 1]? = some (.loop (rec .done (some .ret))) := (hT.block _ (by omega) (fun hx => by have := hX _ hx; omega)).trans hl
        have hkC : C.heap[D]? = some (.deferred (some [])) := (hT.block _ (by omega) (fun hx => by have := hX _ hx; omega)).trans hk
        have hend := run_endLoop (P := P) hlC (by rw [hrec]; simp)
        refine ⟨some .ret, _, by rw [hrec] at hend; exact hend, ?_⟩
        have hq := hstop pre A C _ hi hT hS (by rw [← hD]; exact sameBut_put C (D + 1) (.loop { state := .exhausted, pending := some .ret, fn, tmps := a.tmps, params := ps, assign, body, defers := D })) (by omega) (by rw [← hD]; exact (World.putObj_heap_other (by omega)).trans hkC)
        rw [← hD] at hq
        exact hq

end Go.Proofs.YtceclhndagoddaaGreatDoor
end

section
namespace Go.Proofs.YtceclhndagoddaaGreatDoor
open Go Go.RowKit

structure PV (β : Type) where
  lab : ByteArray
  k : Int
  n : Int
  nm : ByteArray
  L : Option Addr
  nl : Nat
  lc : Nat
  A : Option Addr
  na : Nat
  ac : Nat
  ok : Bool
  b : Option β
def PV.val {β : Type} (p : PV β) : Value := .agg #[.int .i64 p.k, .int .i64 p.n, .string p.nm, .slice p.L p.nl p.lc, .slice p.A p.na p.ac]
def PV.enc {β : Type} (p : PV β) : Array Value := #[.agg #[.string p.lab, .int .i64 p.k, .int .i64 p.n, .string p.nm, .slice p.L p.nl p.lc, .slice p.A p.na p.ac], .bool p.ok]
/-- All that was read. -/
def reads {β : Type} (ps : List (PV β)) : List β := ps.filterMap (·.b)
/-- How many nodes it has. -/
def nodes {β : Type} (val : β → Va) (ps : List (PV β)) : Nat := szs (fun b => sizeVa (val b)) (reads ps)
/-- What the iterator says of a part. -/
def PVx {β : Type} (lab : β → ByteArray) (val : β → Va) (M : Nat) (pre : List (PV β)) (A : World) (p : PV β) (B : World) : Prop :=
  p.ok = true → ∃ b, p.b = some b ∧ lab b = p.lab ∧ p.lab.size ≤ 1048576 ∧ nodes val (pre ++ [p]) ≤ M ∧ OwnVa B A.heap.size p.val (val b)
/-- The end: all was handed over. -/
def PVs {β : Type} (val : β → Va) (B ps pa pr : Nat) (s : ByteArray) (j M : Nat) (f : List UInt8 → Option (β × List UInt8)) (e : UInt8) (xs : List (PV β)) (C : World) : Prop :=
  (∀ p ∈ xs, p.ok = true) → ∃ j', rdSeqE f e (restOf s j) = some (reads xs, restOf s j') ∧ nodes val xs ≤ M ∧ VR B C ps pa pr s j' (M - nodes val xs)
/-- The end: the caller stopped. -/
def PVp {β : Type} (val : β → Va) (B ps pa pr : Nat) (s : ByteArray) (j M : Nat) (f : List UInt8 → Option (β × List UInt8)) (e : UInt8) (xs : List (PV β)) (C : World) : Prop :=
  (∃ j' m', VR B C ps pa pr s j' m') ∧ ((∃ p ∈ xs, p.ok = false) → BadL (fun b => formVa (val b)) (fun b => sizeVa (val b)) M (rdSeqE f e (restOf s j)))

theorem reads_snoc {β : Type} (pre : List (PV β)) (p : PV β) (b : β) (h : p.b = some b) : reads (pre ++ [p]) = reads pre ++ [b] := by
  unfold reads
  rw [List.filterMap_append]
  simp [h]
theorem nodes_snoc {β : Type} (val : β → Va) (pre : List (PV β)) (p : PV β) (b : β) (h : p.b = some b) : nodes val (pre ++ [p]) = nodes val pre + sizeVa (val b) := by
  unfold nodes
  rw [reads_snoc pre p b h]
  simp [szs]
theorem ok_snoc {β : Type} {pre : List (PV β)} {p : PV β} (h : ∀ q ∈ pre, q.ok = true) (hp : p.ok = true) : ∀ q ∈ pre ++ [p], q.ok = true := fun q hq => by
  rcases List.mem_append.1 hq with h1 | h1
  · exact h q h1
  · rw [List.mem_singleton.1 h1]
    exact hp
theorem va_len (n : Nat) {l r : List UInt8} {t : Va} (h : rdVa n l = some (t, r)) : r.length ≤ l.length := by
  rw [rdVa_sound n l t r h, List.length_append]
  omega
theorem field_len (n : Nat) {l r : List UInt8} {b : ByteArray × Va} (h : rdField (rdVa n) l = some (b, r)) : r.length ≤ l.length := by
  rw [rdField_sound (rdVa_sound n) l b r h, List.length_append]
  omega
theorem eat_len {c : UInt8} {l r : List UInt8} (h : eat c l = some r) : l.length = r.length + 1 := by
  cases l with
  | nil => cases h
  | cons d q =>
    by_cases hd : d = c
    · subst hd
      rw [eat_cons] at h
      injection h with h
      rw [← h]
      rfl
    · rw [eat_other _ hd] at h
      cases h
theorem VR.belowX {B : Nat} {w w' : World} {ps pa pr j m C : Nat} {s : ByteArray} {Y : Nat → Prop} (h : VR B w ps pa pr s j m) (hb : BelowX Y C w w') (h1 : ps < C) (h2 : pa < C) (h3 : pr < C) (hy : ∀ i, Y i → B ≤ i ∧ i ≠ ps ∧ i ≠ pa ∧ i ≠ pr) : VR B w' ps pa pr s j m :=
  ⟨⟨(hb.block _ h1 (fun y => (hy _ y).2.1 rfl)).trans h.rd.str, (hb.block _ h2 (fun y => (hy _ y).2.2.1 rfl)).trans h.rd.place, h.rd.ne, h.rd.le⟩, (hb.block _ h3 (fun y => (hy _ y).2.2.2 rfl)).trans h.obj,
    h.nums.below ⟨hb.os, hb.tape, hb.output, hb.size, fun i hi => hb.block i (by have := h.ls; omega) (fun y => by have := (hy _ y).1; omega)⟩, h.ns, h.na, h.ls, h.la, h.lr⟩
theorem whole_belowX {w w' : World} {C b : Nat} {Y : Nat → Prop} {t : TypeId} {cs : Array Value} (h : Whole1 w b t cs) (hb : BelowX Y C w w') (hl : b < C) (hn : ¬ Y b) : Whole1 w' b t cs := (hb.block _ hl hn).trans h

end Go.Proofs.YtceclhndagoddaaGreatDoor
end
