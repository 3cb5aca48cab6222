/- spec.l3Copy makes a new tree. -/
import Derived.Test.YthdfidhijmcbdaaGather
import Derived.Test.YthdfidhijmcbdaaEqTy
import Derived.Test.YthdfidhijmcbdaaAppend
import Derived.Deep.RegionHeldLaw
import Derived.Deep.AppendLies
import Derived.Deep.DeepCutAuto
import Derived.Deep.DrawnRows
namespace Go.Proofs.Ythdfidhijmcbdaa
open Go.RowKit
attribute [local go_sem ↓] Go.wp_at_zero Go.wp_at_succ

theorem own_form {w : World} {base n : Nat} {v : Value} {xs : List Value} {ss : List ByteArray} (h : w.ownsRow base 9 1 v n xs) (hx : strVals ss = xs) : ∃ A c, v = .slice A ss.length c ∧ (ss = [] ∨ ∃ g, A = some ⟨g, 0, none⟩ ∧ base ≤ g ∧ RowStrs w g ss) := by
  rcases RowStrs.of_own (own_strs h hx) with ⟨rfl, rfl⟩ | ⟨g, cap, rfl, h1, h2⟩
  · exact ⟨none, 0, rfl, .inl rfl⟩
  · exact ⟨_, _, rfl, .inr ⟨g, rfl, h1, h2⟩⟩

theorem news3 (w : World) (t : TypeId) (a b c : Value) (h1 : a.oneCell' = true := by rfl) (h2 : b.oneCell' = true := by rfl) (h3 : c.oneCell' = true := by rfl) :
    (∀ j u, [a, b, c][j]? = some u → (w.alloc (.cells #[a, b, c] t)).cell? ((⟨w.heap.size, 0, none⟩ : Addr).add j) = some u) ∧ ∀ u ∈ [a, b, c], u.oneCell' = true := by
  constructor
  · intro j u hj
    rw [WideShapes.add_plain, World.cell?_alloc_at _ _ _ _ rfl, Nat.zero_add]
    simpa using hj
  · intro u hu
    simp at hu
    rcases hu with rfl | rfl | rfl
    · exact h1
    · exact h2
    · exact h3

end Go.Proofs.Ythdfidhijmcbdaa
