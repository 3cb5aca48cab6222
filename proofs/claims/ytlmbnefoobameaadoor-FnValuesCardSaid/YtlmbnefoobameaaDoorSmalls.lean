/- The numbers of a value are small: those that are parsed. -/
import Derived.Test.YtlmbnefoobameaaDoorNums
namespace Go.Proofs.YtlmbnefoobameaaDoor
open Go.RowKit

mutual
/-- Every number is small. -/
def smallB : Va → Bool | .mk _ n _ _ ts => decide (-999999999999 ≤ n ∧ n ≤ 999999999999) && smallBs ts
def smallBs : List Va → Bool | [] => true | t :: r => smallB t && smallBs r
end
theorem smallBs_all : ∀ (ts : List Va), (∀ i, (h : i < ts.length) → smallB ts[i] = true) → smallBs ts = true
  | [], _ => by rw [smallBs]
  | t :: r, h => by
    rw [smallBs, show smallB t = true from h 0 (by simp), smallBs_all r fun i hi => h (i + 1) (by simpa using hi)]
    rfl
theorem smallBs_at : ∀ (ts : List Va), smallBs ts = true → ∀ i, (h : i < ts.length) → smallB ts[i] = true
  | [], _, i, h => absurd h (by simp)
  | t :: r, e, i, h => by
    rw [smallBs, Bool.and_eq_true] at e
    cases i with
    | zero => exact e.1
    | succ i => exact smallBs_at r e.2 i (by simpa using h)
theorem smallB_mk (k n : Int) (nm : ByteArray) (ls : List ByteArray) (ts : List Va) (h : -999999999999 ≤ n ∧ n ≤ 999999999999) (h2 : ∀ i, (h : i < ts.length) → smallB ts[i] = true) : smallB (.mk k n nm ls ts) = true := by
  rw [smallB, smallBs_all ts h2]
  simp [h]
theorem smallB_of (t : Va) (h : smallB t = true) : (-999999999999 ≤ t.num ∧ t.num ≤ 999999999999) ∧ ∀ i, (h : i < t.args.length) → smallB t.args[i] = true := by
  cases t
  rw [smallB, Bool.and_eq_true, decide_eq_true_eq] at h
  exact ⟨h.1, smallBs_at _ h.2⟩
theorem smallB_nums (t : Va) : smallB t = true → numsB t = true := by
  induction t using Va.ind with
  | h k n nm ls ts ih =>
    intro h
    obtain ⟨h1, h2⟩ := smallB_of _ h
    simp only [Va.num, Va.args] at h1 h2
    exact numsB_mk _ _ _ _ _ (by omega) fun i hi => ih i hi (h2 i hi)
theorem smallBs_mem : ∀ {ts : List Va}, smallBs ts = true → ∀ t ∈ ts, smallB t = true
  | [], _, t, h => by cases h
  | a :: r, h, t, ht => by
    rw [smallBs, Bool.and_eq_true] at h
    rcases List.mem_cons.1 ht with rfl | h2
    · exact h.1
    · exact smallBs_mem h.2 t h2
theorem smallBs_of : ∀ (ts : List Va), (∀ t ∈ ts, smallB t = true) → smallBs ts = true := fun ts h => smallBs_all ts fun _ hi => h _ (List.getElem_mem hi)

end Go.Proofs.YtlmbnefoobameaaDoor
