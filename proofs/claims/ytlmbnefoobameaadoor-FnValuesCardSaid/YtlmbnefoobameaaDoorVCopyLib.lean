/- Values that are built: new, stored, grown by append. -/
import Derived.Test.YtlmbnefoobameaaDoorVGather
import Derived.Test.YtlmbnefoobameaaDoorSpecCopy
namespace Go.Proofs.YtlmbnefoobameaaDoor
open Go.RowKit

theorem vrow_apart {w : World} {g po : Nat} {ss : List ByteArray} {cs : Array Value} (h : RowStrs w g ss) (hw : Whole1 w po 27 cs) : po ≠ g := by
  intro e
  subst e
  obtain ⟨c, h1, _⟩ := h
  unfold Whole1 at h1 hw
  rw [h1] at hw
  injection hw with hw
  injection hw with _ h2
  exact absurd h2 (by decide)
theorem vcopy_stored {w0 w1 : World} {po c1 : Nat} {A1 : Option Addr} {k0 n0 : Int} {nm : ByteArray} {ls : List ByteArray} (hpo : w0.heap.size ≤ po) (hw : Whole1 w1 po 27 #[.int .i64 0, .int .i64 0, .string ⟨#[]⟩, .slice none 0 0, .slice none 0 0]) (hrow : ls = [] ∨ ∃ g, A1 = some ⟨g, 0, none⟩ ∧ w0.heap.size ≤ g ∧ RowStrs w1 g ls) (hB : Below w0.heap.size w0 w1) :
    ∃ (po' c : Nat) (A' : Option Addr), Value.pointer (some ⟨po, 0, none⟩) = .pointer (some ⟨po', 0, none⟩) ∧ w0.heap.size ≤ po' ∧ Whole1 (((((w1.setCell ⟨po, 0, none⟩ (.int .i64 k0)).setCell ⟨po, 1, none⟩ (.int .i64 n0)).setCell ⟨po, 2, none⟩ (.string nm)).setCell ⟨po, 3, none⟩ (.slice A1 ls.length c1)).setCell ⟨po, 4, none⟩ (.slice none 0 0)) po' 27 #[.int .i64 k0, .int .i64 n0, .string nm, .slice A' ls.length c, .slice none 0 0] ∧
      (ls = [] ∨ ∃ g, A' = some ⟨g, 0, none⟩ ∧ w0.heap.size ≤ g ∧ po' ≠ g ∧ RowStrs (((((w1.setCell ⟨po, 0, none⟩ (.int .i64 k0)).setCell ⟨po, 1, none⟩ (.int .i64 n0)).setCell ⟨po, 2, none⟩ (.string nm)).setCell ⟨po, 3, none⟩ (.slice A1 ls.length c1)).setCell ⟨po, 4, none⟩ (.slice none 0 0)) g ls) ∧
      Below w0.heap.size w0 (((((w1.setCell ⟨po, 0, none⟩ (.int .i64 k0)).setCell ⟨po, 1, none⟩ (.int .i64 n0)).setCell ⟨po, 2, none⟩ (.string nm)).setCell ⟨po, 3, none⟩ (.slice A1 ls.length c1)).setCell ⟨po, 4, none⟩ (.slice none 0 0)) := by
  refine ⟨po, c1, A1, rfl, hpo, ((((hw.set 0 _).set 1 _).set 2 _).set 3 _).set 4 _, hrow.imp id fun ⟨g, h1, h2, h3⟩ => ⟨g, h1, h2, vrow_apart h3 hw, h3.same ?_⟩, ((((hB.setCell hpo _).setCell hpo _).setCell hpo _).setCell hpo _).setCell hpo _⟩
  have hne := (vrow_apart h3 hw).symm
  rw [Below.heap_setCell _ _ _ _ hne, Below.heap_setCell _ _ _ _ hne, Below.heap_setCell _ _ _ _ hne, Below.heap_setCell _ _ _ _ hne, Below.heap_setCell _ _ _ _ hne]
theorem vcopy_new {w0 w1 : World} {c1 : Nat} {A1 : Option Addr} {k0 n0 : Int} {nm : ByteArray} {ls : List ByteArray} (hrow : ls = [] ∨ ∃ g, A1 = some ⟨g, 0, none⟩ ∧ w0.heap.size ≤ g ∧ RowStrs w1 g ls) (hB : Below w0.heap.size w0 w1) :
    ∃ (po' c : Nat) (A' : Option Addr), Value.pointer (some ⟨w1.heap.size, 0, none⟩) = .pointer (some ⟨po', 0, none⟩) ∧ w0.heap.size ≤ po' ∧ Whole1 (w1.alloc (.cells #[.int .i64 k0, .int .i64 n0, .string nm, .slice A1 ls.length c1, .slice none 0 0] 27)) po' 27 #[.int .i64 k0, .int .i64 n0, .string nm, .slice A' ls.length c, .slice none 0 0] ∧
      (ls = [] ∨ ∃ g, A' = some ⟨g, 0, none⟩ ∧ w0.heap.size ≤ g ∧ po' ≠ g ∧ RowStrs (w1.alloc (.cells #[.int .i64 k0, .int .i64 n0, .string nm, .slice A1 ls.length c1, .slice none 0 0] 27)) g ls) ∧
      Below w0.heap.size w0 (w1.alloc (.cells #[.int .i64 k0, .int .i64 n0, .string nm, .slice A1 ls.length c1, .slice none 0 0] 27)) :=
  ⟨w1.heap.size, c1, A1, rfl, hB.size, Whole1.new _ _ _, hrow.imp id fun ⟨g, h1, h2, h3⟩ => ⟨g, h1, h2, fun e => by have := h3.lt; omega, h3.below ((Below.refl _ _).alloc (Nat.le_refl _) _) h3.lt⟩, hB.alloc hB.size _⟩

theorem news5 (w : World) (t : TypeId) (a b c d e : Value) (h1 : a.oneCell' = true := by rfl) (h2 : b.oneCell' = true := by rfl) (h3 : c.oneCell' = true := by rfl) (h4 : d.oneCell' = true := by rfl) (h5 : e.oneCell' = true := by rfl) :
    (∀ j u, [a, b, c, d, e][j]? = some u → (w.alloc (.cells #[a, b, c, d, e] t)).cell? ((⟨w.heap.size, 0, none⟩ : Addr).add j) = some u) ∧ ∀ u ∈ [a, b, c, d, e], u.oneCell' = true := by
  constructor
  · intro j u hj
    rw [WideShapes.add_plain, World.cell?_alloc_at _ _ _ _ rfl, Nat.zero_add]
    simpa using hj
  · intro u hu
    simp at hu
    rcases hu with rfl | rfl | rfl | rfl | rfl
    · exact h1
    · exact h2
    · exact h3
    · exact h4
    · exact h5

theorem vcopy_rel {w wc wr w1 w3 : World} {po k g cap c1 c2 : Nat} {A1 A2 : Option Addr} {k0 n0 : Int} {nm : ByteArray} {n : Nat} {ts : List Va} {xs : List Value} {vs : Nat → Value} {lo hi : Nat → Nat} {a b c d e : Value} (hk : k < ts.length) (hol : po < wc.heap.size) (hpo : w.heap.size ≤ po) (hsz : wc.heap.size ≤ wr.heap.size)
    (hG : VGatherAt wr wc.heap.size (.slice A2 k c2) k ts xs vs lo hi) (hb1 : Below wr.heap.size wr w1) (ht : VaIn w1 (Span wr.heap.size w1.heap.size) (.agg #[a, b, c, d, e]) ts[k])
    (hown3 : w3.ownsRow wc.heap.size 27 5 (.slice (some ⟨g, 0, none⟩) (k + 1) cap) (k + 1) (xs ++ [a, b, c, d, e])) (hg3 : (w1.alloc (.cells #[a, b, c, d, e] 27)).grownBy w3 (Value.slice A2 k c2).ownBlock) (hat3 : (Value.slice A2 k c2).ownBlock = some g ∨ g = w1.heap.size + 1)
    (ho3 : Whole1 w3 po 27 #[.int .i64 k0, .int .i64 n0, .string nm, .slice A1 n c1, .slice A2 k c2]) (hold : ∀ q, q < wc.heap.size → q ≠ po → wr.heap[q]? = wc.heap[q]?) (hb : Below w.heap.size w wr) :
    Whole1 (w3.setCell ⟨po, 4, none⟩ (.slice (some ⟨g, 0, none⟩) (k + 1) cap)) po 27 #[.int .i64 k0, .int .i64 n0, .string nm, .slice A1 n c1, .slice (some ⟨g, 0, none⟩) (k + 1) cap] ∧ VGather (w3.setCell ⟨po, 4, none⟩ (.slice (some ⟨g, 0, none⟩) (k + 1) cap)) wc.heap.size (.slice (some ⟨g, 0, none⟩) (k + 1) cap) (k + 1) ts ∧
      (∀ q, q < wc.heap.size → q ≠ po → (w3.setCell ⟨po, 4, none⟩ (.slice (some ⟨g, 0, none⟩) (k + 1) cap)).heap[q]? = wc.heap[q]?) ∧ Below w.heap.size w (w3.setCell ⟨po, 4, none⟩ (.slice (some ⟨g, 0, none⟩) (k + 1) cap)) ∧ wc.heap.size ≤ (w3.setCell ⟨po, 4, none⟩ (.slice (some ⟨g, 0, none⟩) (k + 1) cap)).heap.size := by
  have hs1 := hb1.size
  have hs3 := hg3.size
  simp only [World.size_alloc] at hs3
  have hw0 := hb.size
  have hvb := fun q (hq : (Value.slice A2 k c2).ownBlock = some q) => (hG.own.lt q hq).1
  refine ⟨ho3.set 4 _, (hG.step hb1 hsz hk ht hown3 hg3 hat3).set hol, fun q hq hqp => ?_, ?_, ?_⟩
  · rw [Below.heap_setCell _ _ _ _ hqp, hg3.block q (by simp; omega) (fun e => by have := hvb q e.symm; omega), Below.heap_alloc _ _ _ (by omega), hb1.block q (by omega)]
    exact hold q hq hqp
  · exact (((hb.trans (hb1.mono hw0)).alloc (by omega) _).grown hg3 (by simp; omega) (fun q hq => by have := hvb q hq; omega)).setCell hpo _
  · show wc.heap.size ≤ (w3.setCell _ _).heap.size
    simp [World.setCell]
    omega

/-- A row of one value. -/
theorem vgather_one {w1 : World} {base lo0 : Nat} {a b c d e : Value} {t : Va} (hb : base ≤ lo0) (hs : lo0 ≤ w1.heap.size) (ht : VaIn w1 (Span lo0 w1.heap.size) (.agg #[a, b, c, d, e]) t) :
    VGather (w1.alloc (.cells #[a, b, c, d, e] 27)) base (.slice (some ⟨w1.heap.size, 0, none⟩) 1 1) 1 [t] := by
  refine ⟨[a, b, c, d, e], fun _ => .agg #[a, b, c, d, e], fun _ => lo0, fun _ => w1.heap.size, World.ownsRow_lit w1 #[a, b, c, d, e] 1 (by omega) (by unfold maxLen; omega) rfl, fun i hi j hj => ?_, fun i hi => ⟨hb, by simp⟩, fun i j h1 h2 => absurd h2 (by omega), fun i hi g hg => ?_, fun i hi hi1 => ?_⟩
  · have h0 : i = 0 := by omega
    subst h0
    have : j = 0 ∨ j = 1 ∨ j = 2 ∨ j = 3 ∨ j = 4 := by omega
    rcases this with rfl | rfl | rfl | rfl | rfl
    · simp [partAt]
    · simp [partAt]
    · simp [partAt]
    · simp [partAt]
    · simp [partAt]
  · intro hsp
    have : g = w1.heap.size := (Option.some.inj hg).symm
    have := hsp.2
    omega
  · have h0 : i = 0 := by omega
    subst h0
    exact ht.keep fun q hq _ => Below.heap_alloc _ _ _ hq.2

end Go.Proofs.YtlmbnefoobameaaDoor
