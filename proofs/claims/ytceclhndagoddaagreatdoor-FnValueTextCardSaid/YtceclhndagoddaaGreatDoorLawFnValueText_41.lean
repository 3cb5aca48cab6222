/- Lemmas: RRec0, RRec1. -/
import Derived.Test.YtceclhndagoddaaGreatDoorLawFnValueText_38
import Derived.Test.YtceclhndagoddaaGreatDoorLawFnValueText_40

section
namespace Go.Proofs.YtceclhndagoddaaGreatDoor
open Go Go.RowKit
set_option linter.unusedSimpArgs false
attribute [local go_sem] Oper.semAt_some
attribute [local go_sem ↓] Go.wp_at_zero Go.wp_at_succ

/-- The labels, the values of fields. -/
abbrev labs (ps : List (PV (ByteArray × Va))) : List ByteArray := (reads ps).map (·.1)
abbrev vals (ps : List (PV (ByteArray × Va))) : List Va := (reads ps).map (·.2)
/-- What stands between two rounds: the result's boxes, the box of the node, its parts. -/
structure RecI (w : World) (pa pr b0 M : Nat) (pre : List (PV (ByteArray × Va))) (W : World) : Prop where
  res : Whole1 W w.heap.size 27 #[.int .i64 0, .int .i64 0, .string ⟨#[]⟩, .slice none 0 0, .slice none 0 0]
  flag : Whole1 W (w.heap.size + 1) 4 #[.bool false]
  node : ∃ LL lc A ac xs vs lo hi, Whole1 W (w.heap.size + 1 + 1) 27 #[.int .i64 3, .int .i64 0, .string ⟨#[]⟩, .slice LL (labs pre).length lc, .slice A (vals pre).length ac] ∧ OwnVAt W b0 LL lc A ac (.mk 3 0 ⟨#[]⟩ (labs pre) (vals pre)) xs vs lo hi
  ok : ∀ q ∈ pre, q.ok = true
  nodes : nodes (fun b : ByteArray × Va => b.2) pre ≤ M
  turned : Turn (vrX pa pr) w W
theorem RecI.same {w A C : World} {b0 l M pa pr : Nat} {pre : List (PV (ByteArray × Va))} (h : RecI w pa pr b0 M pre A) (hs : SameBut l A C) (hl : w.heap.size + 1 + 1 < l) (hb : l < b0) : RecI w pa pr b0 M pre C := by
  obtain ⟨LL, lc, A', ac, xs, vs, lo, hi, h1, h2⟩ := h.node
  have hsz := h1.lt
  exact ⟨(hs.block h.res.lt (by omega)).trans h.res, (hs.block h.flag.lt (by omega)).trans h.flag, ⟨LL, lc, A', ac, xs, vs, lo, hi, (hs.block h1.lt (by omega)).trans h1, h2.grown hs.1 hb⟩, h.ok, h.nodes, h.turned.below (hs.below (B := w.heap.size) (by omega) h.turned.size) (Nat.le_refl _)⟩
theorem RecI.turn {w A C : World} {b0 M pa pr : Nat} {pre : List (PV (ByteArray × Va))} (h : RecI w pa pr b0 M pre A) (hT : Turn (vrX pa pr) A C) (h1 : pa < w.heap.size) (h2 : pr < w.heap.size) (hb : w.heap.size ≤ b0) : RecI w pa pr b0 M pre C := by
  obtain ⟨LL, lc, A', ac, xs, vs, lo, hi, h3, h4⟩ := h.node
  exact ⟨turn_stays hT h.res (by omega) (by omega), turn_stays hT h.flag (by omega) (by omega), ⟨LL, lc, A', ac, xs, vs, lo, hi, turn_stays hT h3 (by omega) (by omega), h4.keep hT.size
    (fun g hg hl => hT.block g hl (fun e => by have := (h4.row.lt g hg).1; rcases e with e | e <;> omega)) (fun g hg hl => hT.block g hl (fun e => by have := (h4.parts.own.lt g hg).1; rcases e with e | e <;> omega))
    (fun i hi' b hb' hl => hT.block b hl (fun e => by have := (h4.parts.low i hi').1; have := hb'.1; rcases e with e | e <;> omega))⟩, h.ok, h.nodes, h.turned.trans hT⟩
theorem RecI.more {w A C : World} {b0 M pa pr : Nat} {pre : List (PV (ByteArray × Va))} (h : RecI w pa pr b0 M pre A) (hb : Below A.heap.size A C) : RecI w pa pr b0 M pre C := by
  obtain ⟨LL, lc, A', ac, xs, vs, lo, hi, h3, h4⟩ := h.node
  exact ⟨h.res.below hb h.res.lt, h.flag.below hb h.flag.lt, ⟨LL, lc, A', ac, xs, vs, lo, hi, h3.below hb h3.lt, h4.keep hb.size (fun g _ hl => hb.block g hl) (fun g _ hl => hb.block g hl) (fun _ _ b _ hl => hb.block b hl)⟩, h.ok, h.nodes, h.turned.below hb h.turned.size⟩
/-- What stands where a part was none. -/
structure RecX (w : World) (pa pr : Nat) (pre : List (PV (ByteArray × Va))) (W : World) : Prop where
  res : Whole1 W w.heap.size 27 #[.int .i64 0, .int .i64 0, .string ⟨#[]⟩, .slice none 0 0, .slice none 0 0]
  flag : Whole1 W (w.heap.size + 1) 4 #[.bool false]
  ok : ∃ q ∈ pre, q.ok = false
  turned : Turn (vrX pa pr) w W
theorem RecX.same {w A C : World} {l pa pr : Nat} {pre : List (PV (ByteArray × Va))} (h : RecX w pa pr pre A) (hs : SameBut l A C) (hl : w.heap.size + 1 + 1 < l) : RecX w pa pr pre C :=
  ⟨(hs.block h.res.lt (by omega)).trans h.res, (hs.block h.flag.lt (by omega)).trans h.flag, h.ok, h.turned.below (hs.below (B := w.heap.size) (by omega) h.turned.size) (Nat.le_refl _)⟩
theorem RecX.turn {w A C : World} {pa pr : Nat} {pre : List (PV (ByteArray × Va))} (h : RecX w pa pr pre A) (hT : Turn (vrX pa pr) A C) (h1 : pa < w.heap.size) (h2 : pr < w.heap.size) : RecX w pa pr pre C :=
  ⟨turn_stays hT h.res (by omega) (by omega), turn_stays hT h.flag (by omega) (by omega), h.ok, h.turned.trans hT⟩

theorem len_fields (us : List (ByteArray × Va)) : us.length ≤ szs (fun b => sizeVa b.2) us := by
  induction us with
  | nil => exact Nat.zero_le _
  | cons t r ih =>
    have h2 := sizeVa_eq t.2
    simp only [szs, List.map_cons, List.sum_cons, List.length_cons] at ih ⊢
    omega
theorem rec_bad {f : List UInt8 → Option (Va × List UInt8)} {l : List UInt8} {m : Nat} (h : BadL (fun b : ByteArray × Va => formVa b.2) (fun b => sizeVa b.2) m (rdSeqE (rdField f) 125 l)) : BadV (m + 1) (rdRec f l) := by
  intro T q hx
  unfold rdRec at hx
  cases hs : rdSeqE (rdField f) 125 l with
  | none => rw [hs] at hx; cases hx
  | some p =>
    obtain ⟨us, r⟩ := p
    rw [hs] at hx
    simp only [Option.some.injEq, Prod.mk.injEq] at hx
    obtain ⟨rfl, rfl⟩ := hx
    rcases h us r hs with h1 | h1 | h1
    · refine Or.inl ?_
      have h2 : us.all (fun b => formVa b.2) = false := h1
      rw [formVa, formVas_map, List.all_map]
      have h3 : us.all (formVa ∘ fun b => b.2) = false := h2
      rw [h3]
      rfl
    · refine Or.inr (Or.inl ?_)
      have h2 : m < szs (fun b : ByteArray × Va => sizeVa b.2) us := h1
      rw [sizeVa, sizeVas_map]
      simp only [szs, List.map_map] at h2 ⊢
      have h3 : (List.map (sizeVa ∘ fun b : ByteArray × Va => b.2) us).sum = (List.map (fun b : ByteArray × Va => sizeVa b.2) us).sum := rfl
      omega
    · exact Or.inr (Or.inr h1)
theorem rec_some {f : List UInt8 → Option (Va × List UInt8)} {l r : List UInt8} {us : List (ByteArray × Va)} (h : rdSeqE (rdField f) 125 l = some (us, r)) : rdRec f l = some (.mk 3 0 ⟨#[]⟩ (us.map (·.1)) (us.map (·.2)), r) := by
  unfold rdRec
  rw [h]

end Go.Proofs.YtceclhndagoddaaGreatDoor
end

section
namespace Go.Proofs.YtceclhndagoddaaGreatDoor
open Go Go.RowKit
set_option linter.unusedSimpArgs false

/-- While a field is appended: what grows, the part (from lo0 on, its box at hi0). -/
structure MidF (b lo0 hi0 : Nat) (B3 : World) (T : TypeId) (cs : Array Value) (L : Option Addr) (lc : Nat) (A : Option Addr) (ac : Nat) (t : Va) (xs : List Value) (vs : Nat → Value) (lo hi : Nat → Nat) (val : Value) (u : Va) (W : World) : Prop where
  os : W.os = B3.os
  tape : W.tape = B3.tape
  output : W.output = B3.output
  grown : B3.heap.size ≤ W.heap.size
  size : hi0 < W.heap.size
  low : ∀ q, q < b → W.heap[q]? = B3.heap[q]?
  box : Whole1 W hi0 T cs
  own : OwnVAt W b L lc A ac t xs vs lo hi
  part : VaIn W (Span lo0 hi0) val u
  parts : ∀ i, i < t.args.length → hi i ≤ lo0
  pL : ∀ g, L = some ⟨g, 0, none⟩ → g < lo0 ∨ hi0 < g
  pA : ∀ g, A = some ⟨g, 0, none⟩ → g < lo0 ∨ hi0 < g
  b0 : b ≤ lo0
  b1 : lo0 ≤ hi0

section
variable {b lo0 hi0 : Nat} {B3 W W' : World} {T : TypeId} {cs : Array Value} {L A : Option Addr} {lc ac : Nat} {t : Va} {xs : List Value} {vs : Nat → Value} {lo hi : Nat → Nat} {val : Value} {u : Va}

theorem MidF.below (h : MidF b lo0 hi0 B3 T cs L lc A ac t xs vs lo hi val u W) (hb : Below W.heap.size W W') : MidF b lo0 hi0 B3 T cs L lc A ac t xs vs lo hi val u W' := by
  have h0 := h.size
  have h1 := h.b0
  have h2 := h.b1
  exact ⟨hb.os.trans h.os, hb.tape.trans h.tape, hb.output.trans h.output, Nat.le_trans h.grown hb.size, Nat.lt_of_lt_of_le h.size hb.size, fun q hq => (hb.block q (by omega)).trans (h.low q hq), h.box.below hb h.box.lt,
    h.own.keep hb.size (fun g _ hl => hb.block g hl) (fun g _ hl => hb.block g hl) (fun _ _ q _ hl => hb.block q hl), h.part.keep fun q _ hl => hb.block q hl, h.parts, h.pL, h.pA, h.b0, h.b1⟩

/-- The label is appended. -/
theorem MidF.label {g cap : Nat} (h : MidF b lo0 hi0 B3 T cs L lc A ac t xs vs lo hi val u W) (s : ByteArray) (hz : s.size ≤ maxLen) (hown : W'.ownsRow b 9 1 (.slice (some ⟨g, 0, none⟩) (t.labels.length + 1) cap) (t.labels.length + 1) (strVals t.labels ++ [.string s]))
    (hgr : W.grownBy W' (Value.slice L t.labels.length lc).ownBlock) (hat : (Value.slice L t.labels.length lc).ownBlock = some g ∨ g = W.heap.size) : MidF b lo0 hi0 B3 T cs (some ⟨g, 0, none⟩) cap A ac (.mk t.kind t.num t.name (t.labels ++ [s]) t.args) xs vs lo hi val u W' := by
  have h0 := h.size
  have h1 := h.b0
  have h2 := h.b1
  have hs := hgr.size
  have far : ∀ q, some q = (Value.slice L t.labels.length lc).ownBlock → b ≤ q ∧ (q < lo0 ∨ hi0 < q) := fun q e => ⟨(h.own.row.lt q e.symm).1, h.pL q (own_addr h.own.row q e.symm)⟩
  refine ⟨hgr.os.trans h.os, hgr.tape.trans h.tape, hgr.output.trans h.output, Nat.le_trans h.grown hs, Nat.lt_of_lt_of_le h.size hs, fun q hq => (hgr.block q (by omega) (fun e => by have := (far q e).1; omega)).trans (h.low q hq), (hgr.block hi0 h0 (fun e => by have := (far hi0 e).2; omega)).trans h.box,
    h.own.label s hz hown hgr (hat.imp id fun e => by omega), h.part.keep fun q hq hl => hgr.block q hl (fun e => by have := (far q e).2; have h5 := hq.1; have h6 := hq.2; omega), h.parts, fun q e => ?_, h.pA, h.b0, h.b1⟩
  have e : g = q := by injection e with e; injection e
  subst e
  rcases hat with hat | hat
  · exact (far g hat.symm).2
  · exact Or.inr (by omega)

/-- The part is appended. -/
theorem MidF.arg {g cap : Nat} {c0 c1 c2 c3 c4 : Value} (h : MidF b lo0 hi0 B3 T cs L lc A ac t xs vs lo hi (.agg #[c0, c1, c2, c3, c4]) u W) (hm : t.args.length + 1 ≤ maxLen) (hown : W'.ownsRow b 27 5 (.slice (some ⟨g, 0, none⟩) (t.args.length + 1) cap) (t.args.length + 1) (xs ++ [c0, c1, c2, c3, c4]))
    (hgr : W.grownBy W' (Value.slice A t.args.length ac).ownBlock) (hat : (Value.slice A t.args.length ac).ownBlock = some g ∨ g = W.heap.size) :
    (W'.os = B3.os ∧ W'.tape = B3.tape ∧ W'.output = B3.output ∧ B3.heap.size ≤ W'.heap.size ∧ b ≤ W'.heap.size) ∧ (∀ q, q < b → W'.heap[q]? = B3.heap[q]?) ∧ ∃ xs2 vs2 lo2 hi2, OwnVAt W' b L lc (some ⟨g, 0, none⟩) cap (.mk t.kind t.num t.name t.labels (t.args ++ [u])) xs2 vs2 lo2 hi2 := by
  have h0 := h.size
  have h1 := h.b0
  have h2 := h.b1
  have hs := hgr.size
  refine ⟨⟨hgr.os.trans h.os, hgr.tape.trans h.tape, hgr.output.trans h.output, Nat.le_trans h.grown hs, by omega⟩, fun q hq => (hgr.block q (by omega) (fun e => by have := (h.own.parts.own.lt q e.symm).1; omega)).trans (h.low q hq), _, _, _, _, h.own.arg2 u (lo0 := lo0) (hi0 := hi0) h1 (by omega) hm h.part h.parts (fun q e hq => by have := h.pL q e; have h5 := hq.1; have h6 := hq.2; omega) (fun q e hq => by have := h.pA q e; have h5 := hq.1; have h6 := hq.2; omega) hown hs (fun q _ hl hne => hgr.block q hl (fun e => hne e.symm)) (hat.imp id fun e => by omega)⟩

/-- What the region reads. -/
def FieldS (nd pb : Nat) (vL vA : Value) (c0 c1 c2 c3 c4 c5 : Value) (x : World) : Prop := x.cell? ⟨nd, 3, none⟩ = some vL ∧ x.cell? ⟨nd, 4, none⟩ = some vA ∧ x.cell? ⟨pb, 0, none⟩ = some c0 ∧ x.cell? ⟨pb, 1, none⟩ = some c1 ∧ x.cell? ⟨pb, 2, none⟩ = some c2 ∧ x.cell? ⟨pb, 3, none⟩ = some c3 ∧ x.cell? ⟨pb, 4, none⟩ = some c4 ∧ x.cell? ⟨pb, 5, none⟩ = some c5
theorem MidF.node {nd : Nat} {TV : TypeId} {ns : Array Value} (h : MidF b lo0 hi0 B3 T cs L lc A ac t xs vs lo hi val u W) (hn : Whole1 B3 nd TV ns) (hb : nd < b) : Whole1 W nd TV ns := (h.low nd hb).trans hn
theorem MidF.S {nd : Nat} {TV : TypeId} {k0 k1 k2 vL vA c0 c1 c2 c3 c4 c5 : Value} (h : MidF b lo0 hi0 B3 T #[c0, c1, c2, c3, c4, c5] L lc A ac t xs vs lo hi val u W) (hn : Whole1 B3 nd TV #[k0, k1, k2, vL, vA]) (hb : nd < b) : FieldS nd hi0 vL vA c0 c1 c2 c3 c4 c5 W :=
  have h1 := h.node hn hb
  ⟨h1.cell 3, h1.cell 4, h.box.cell 0, h.box.cell 1, h.box.cell 2, h.box.cell 3, h.box.cell 4, h.box.cell 5⟩
end

end Go.Proofs.YtceclhndagoddaaGreatDoor
end
