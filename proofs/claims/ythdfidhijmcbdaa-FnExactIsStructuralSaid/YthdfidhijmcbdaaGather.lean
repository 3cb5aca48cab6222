/- laws.toTypeS, and with it toType at every tree. -/
import Derived.Test.YthdfidhijmcbdaaToTy
import Derived.Test.YthdfidhijmcbdaaAppend

namespace Go.Proofs.Ythdfidhijmcbdaa
open Go.RowKit

end Go.Proofs.Ythdfidhijmcbdaa

namespace Go.Proofs.Ythdfidhijmcbdaa
open Go.RowKit

theorem own_keep {w w' : World} {base k : Nat} {e : TypeId} {v : Value} {xs : List Value} (h : w.ownsRow base e 3 v k xs) (hk : ∀ g, v.ownBlock = some g → w'.heap[g]? = w.heap[g]?) : w'.ownsRow base e 3 v k xs := by
  refine ⟨h.1, ?_⟩
  rcases h.2 with h2 | ⟨g, cap, cur, h1, h2, h3, h4⟩
  · exact .inl h2
  · exact .inr ⟨g, cap, cur, h1, h2, (hk g (by rw [h1]; rfl)).trans h3, h4⟩

end Go.Proofs.Ythdfidhijmcbdaa
