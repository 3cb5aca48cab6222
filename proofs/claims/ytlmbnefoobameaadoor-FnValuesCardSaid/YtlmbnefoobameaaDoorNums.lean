/- The numbers of a value fit an int. -/
import Derived.Test.YtlmbnefoobameaaDoorVaIn
namespace Go.Proofs.YtlmbnefoobameaaDoor
open Go.RowKit

mutual
/-- Every number fits an int. -/
def numsB : Va → Bool | .mk _ n _ _ ts => decide (-9223372036854775808 ≤ n ∧ n ≤ 9223372036854775807) && numsBs ts
def numsBs : List Va → Bool | [] => true | t :: r => numsB t && numsBs r
end
theorem numsBs_all : ∀ (ts : List Va), (∀ i, (h : i < ts.length) → numsB ts[i] = true) → numsBs ts = true
  | [], _ => by rw [numsBs]
  | t :: r, h => by
    rw [numsBs, show numsB t = true from h 0 (by simp), numsBs_all r fun i hi => h (i + 1) (by simpa using hi)]
    rfl
theorem numsBs_at : ∀ (ts : List Va), numsBs ts = true → ∀ i, (h : i < ts.length) → numsB ts[i] = true
  | [], _, i, h => absurd h (by simp)
  | t :: r, e, i, h => by
    rw [numsBs, Bool.and_eq_true] at e
    cases i with
    | zero => exact e.1
    | succ i => exact numsBs_at r e.2 i (by simpa using h)
theorem numsB_mk (k n : Int) (nm : ByteArray) (ls : List ByteArray) (ts : List Va) (h : -9223372036854775808 ≤ n ∧ n ≤ 9223372036854775807) (h2 : ∀ i, (h : i < ts.length) → numsB ts[i] = true) : numsB (.mk k n nm ls ts) = true := by
  rw [numsB, numsBs_all ts h2]
  simp [h]
theorem numsB_of (t : Va) (h : numsB t = true) : (-9223372036854775808 ≤ t.num ∧ t.num ≤ 9223372036854775807) ∧ ∀ i, (h : i < t.args.length) → numsB t.args[i] = true := by
  cases t
  rw [numsB, Bool.and_eq_true, decide_eq_true_eq] at h
  exact ⟨h.1, numsBs_at _ h.2⟩

end Go.Proofs.YtlmbnefoobameaaDoor
