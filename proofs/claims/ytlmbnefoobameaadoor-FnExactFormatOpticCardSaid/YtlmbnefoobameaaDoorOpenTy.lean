/- A laws.Type argument opened into the words of Ty. -/
import Derived.Test.YtlmbnefoobameaaDoorLaw
import Derived.Test.YtlmbnefoobameaaDoorTyIn
import Derived.Test.YtlmbnefoobameaaDoorProg
namespace Go.Proofs.YtlmbnefoobameaaDoor
set_option maxRecDepth 100000
open Go.ChangeShapes Go.WideShapes Go.ChangeAt Go.RowKit

theorem cellsString : Tryd.prog.cellsOf 9 = 1 := by kernel_rfl
theorem cellsInt : Tryd.prog.cellsOf 3 = 1 := by kernel_rfl
theorem cellsStrs : Tryd.prog.cellsOf 24 = 1 := by kernel_rfl

theorem open_labels {H : Type} {enc : TypeId × Value → H} {W : World} {fuel : Nat} {cs : List Value} {x : DataW H × List MemPlace} (h : DataW.trod enc Tryd.prog W 0 (fun _ => true) true fuel 24 cs = some x) (hlt : ∀ q ∈ x.2, q.block < W.heap.size) :
    ∃ A ss c, cs = [.slice A (List.length ss) c] ∧ StrsAt W W.heap.size A ss ∧ ss.length ≤ maxLen ∧ ∀ i, (h : i < ss.length) → ss[i].size ≤ maxLen := by
  rcases open_strings Tryd.underlying24 Tryd.underlying9 cellsString h with ⟨hcs, hx⟩ | ⟨a, len, cap, ss, hcs, _, hl, hm, hz, hx, hcell, hws⟩
  · subst hcs
    exact ⟨none, [], 0, rfl, StrsAt.empty _ _ _, Nat.zero_le _, fun i h => absurd h (by simp)⟩
  · subst hcs
    simp only [if_true] at hz
    subst hx
    have hlen : (ss.take len).length = len := by rw [List.length_take]; omega
    refine ⟨some a, ss.take len, cap, by rw [hlen], fun i hi => ?_, by rw [hlen]; omega, fun i hi => ?_⟩
    · rw [hlen] at hi
      obtain ⟨b, off, spot⟩ := a
      have hspot : spot = none := by simpa [Addr.add] using World.cell?_spot (hcell 0 (by omega))
      subst hspot
      refine ⟨b, off, rfl, hlt (.cell b off) (MemPlace.mem_row.2 ⟨0, by omega, by simp⟩), ?_⟩
      have := hcell i (by omega)
      rw [add_plain] at this
      rw [this, List.getElem_take]
      simp [show i < ss.length by omega]
    · exact hws _ (List.mem_of_mem_take (List.getElem_mem hi))

end Go.Proofs.YtlmbnefoobameaaDoor
