/- What a numeral looks like behind its sign, free of the program. -/
import Derived.Test.YtlmbnefoobameaaDoorNumLaws
namespace Go.Proofs.YtlmbnefoobameaaDoor

def behind (l : List UInt8) : List UInt8 := if l.head? = some 45 then l.tail else l
def sign (l : List UInt8) (u : Nat) : Int := if l.head? = some 45 then -(u : Int) else u

theorem itoa_behind (n : Int) : behind (Lib.itoa n) = Lib.decDigits n.natAbs ∧ (n = sign (Lib.itoa n) n.natAbs) := by
  unfold behind sign Lib.itoa
  by_cases h : n < 0
  · rw [if_pos h]
    simp
    omega
  · rw [if_neg h]
    have e : n.toNat = n.natAbs := by omega
    rw [e]
    have hh : (Lib.decDigits n.natAbs).head? ≠ some 45 := by
      intro hc
      have := dec_dig n.natAbs 45 (List.mem_of_mem_head? hc)
      unfold IsDig at this
      simp at this
    rw [if_neg hh, if_neg hh]
    exact ⟨rfl, by omega⟩

/-- Why a string is no numeral of at most k + 1 digits. -/
theorem no_short {l : List UInt8} {k : Nat} (h : (behind l).length < 1 ∨ k + 1 < (behind l).length) (n : Int) (hn : n.natAbs < 10 ^ (k + 1)) : l ≠ Lib.itoa n := by
  rintro rfl
  rw [(itoa_behind n).1] at h
  have h1 := dec_len k n.natAbs hn
  have h2 := List.length_pos_iff.2 (dec_ne n.natAbs)
  omega
theorem no_digit {l : List UInt8} {c : UInt8} (hc : c ∈ behind l) (h : ¬ IsDig c) (n : Int) : l ≠ Lib.itoa n := by
  rintro rfl
  rw [(itoa_behind n).1] at hc
  exact h (dec_dig _ c hc)
theorem the_number {l : List UInt8} (n : Int) (h : l = Lib.itoa n) : n = sign l (valD (behind l)) := by
  subst h
  rw [(itoa_behind n).1, dec_val]
  exact (itoa_behind n).2

theorem valD_take (l : List UInt8) (k : Nat) (h : k < l.length) : valD (l.take (k + 1)) = 10 * valD (l.take k) + (l[k].toNat - 48) := by
  rw [List.take_succ_eq_append_getElem h, valD_snoc]
theorem valD_lt (l : List UInt8) (k : Nat) : k ≤ l.length → (∀ i, (h : i < l.length) → i < k → IsDig l[i]) → valD (l.take k) < 10 ^ k := by
  induction k with
  | zero => intro _ _; simp [valD]
  | succ k ih =>
    intro hk hd
    have h1 := ih (by omega) (fun i h hi => hd i h (by omega))
    have h2 := hd k (by omega) (by omega)
    unfold IsDig at h2
    rw [valD_take l k (by omega), Nat.pow_succ]
    omega

end Go.Proofs.YtlmbnefoobameaaDoor
