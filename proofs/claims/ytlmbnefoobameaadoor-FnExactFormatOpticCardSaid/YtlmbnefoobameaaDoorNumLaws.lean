/- Decimal numerals, free of the program. -/
import Derived.Lib.ItoaNum
import Derived.Lib.AtoiAll
namespace Go.Proofs.YtlmbnefoobameaaDoor

/-- What digits spell. -/
def valD (l : List UInt8) : Nat := l.foldl (fun a c => 10 * a + (c.toNat - 48)) 0
theorem valD_snoc (l : List UInt8) (c : UInt8) : valD (l ++ [c]) = 10 * valD l + (c.toNat - 48) := by simp [valD]
def IsDig (c : UInt8) : Prop := 48 ≤ c.toNat ∧ c.toNat ≤ 57

theorem digit_toNat (d : Nat) (h : d < 10) : (UInt8.ofNat (48 + d)).toNat = 48 + d := by
  rw [UInt8.toNat_ofNat']
  omega

theorem dec_rec (P : Nat → List UInt8 → Prop) (h1 : ∀ u, u < 10 → P u [UInt8.ofNat (48 + u)]) (h2 : ∀ u, 10 ≤ u → P (u / 10) (Lib.decDigits (u / 10)) → P u (Lib.decDigits (u / 10) ++ [UInt8.ofNat (48 + u % 10)])) (u : Nat) : P u (Lib.decDigits u) := by
  induction u using Nat.strongRecOn with
  | ind u ih =>
    rw [Lib.decDigits]
    by_cases h : u < 10
    · rw [dif_pos h]; exact h1 u h
    · rw [dif_neg h]; exact h2 u (by omega) (ih _ (by omega))

theorem dec_val (u : Nat) : valD (Lib.decDigits u) = u := by
  refine dec_rec (fun u l => valD l = u) (fun u h => ?_) (fun u h ih => ?_) u
  · show 10 * 0 + ((UInt8.ofNat (48 + u)).toNat - 48) = u
    rw [digit_toNat u h]
    omega
  · rw [valD_snoc, ih, digit_toNat _ (by omega)]
    omega
theorem dec_dig (u : Nat) : ∀ c ∈ Lib.decDigits u, IsDig c := by
  refine dec_rec (fun u l => ∀ c ∈ l, IsDig c) (fun u h c hc => ?_) (fun u h ih c hc => ?_) u
  · rw [List.mem_singleton.1 hc]
    have := digit_toNat u h
    exact ⟨by omega, by omega⟩
  · rcases List.mem_append.1 hc with hc | hc
    · exact ih c hc
    · rw [List.mem_singleton.1 hc]
      have := digit_toNat (u % 10) (by omega)
      exact ⟨by omega, by omega⟩
theorem dec_ne (u : Nat) : Lib.decDigits u ≠ [] := by
  refine dec_rec (fun u l => l ≠ []) (fun u h => ?_) (fun u h ih => ?_) u <;> simp
theorem dec_len (k : Nat) : ∀ u, u < 10 ^ (k + 1) → (Lib.decDigits u).length ≤ k + 1 := by
  induction k with
  | zero => intro u h; rw [Lib.decDigits, dif_pos (by simpa using h)]; simp
  | succ k ih =>
    intro u h
    rw [Lib.decDigits]
    by_cases h1 : u < 10
    · rw [dif_pos h1]; simp
    · rw [dif_neg h1, List.length_append]
      have := ih (u / 10) (by rw [Nat.div_lt_iff_lt_mul (by omega)]; rw [Nat.pow_succ 10 (k + 1)] at h; exact h)
      simp
      omega

theorem parse_snoc : ∀ (l : List UInt8) (acc v : Nat) (c : UInt8), Lib.parseUint10 acc l = .ok v → IsDig c → v * 10 + (c.toNat - 48) < 18446744073709551616 → Lib.parseUint10 acc (l ++ [c]) = .ok (v * 10 + (c.toNat - 48))
  | [], acc, v, c, h, hc, hv => by
    simp only [Lib.parseUint10] at h
    injection h with h
    subst h
    simp only [List.nil_append, Lib.parseUint10]
    rw [if_pos (show 48 ≤ c.toNat ∧ c.toNat ≤ 57 from hc), if_neg (by omega), if_neg (by omega)]
  | b :: l, acc, v, c, h, hc, hv => by
    simp only [Lib.parseUint10] at h
    simp only [List.cons_append, Lib.parseUint10]
    split at h
    · rename_i hb
      rw [if_pos hb]
      split at h
      · cases h
      · rename_i h1
        rw [if_neg h1]
        split at h
        · cases h
        · rename_i h2
          rw [if_neg h2]
          exact parse_snoc l _ v c h hc hv
    · cases h
theorem parse_dec (u : Nat) (hu : u < 18446744073709551616) : Lib.parseUint10 0 (Lib.decDigits u) = .ok u := by
  refine dec_rec (fun u l => u < 18446744073709551616 → Lib.parseUint10 0 l = .ok u) (fun u h hu => ?_) (fun u h ih hu => ?_) u hu
  · have hd := digit_toNat u h
    have := parse_snoc [] 0 0 (UInt8.ofNat (48 + u)) rfl ⟨by omega, by omega⟩ (by omega)
    rw [List.nil_append, hd] at this
    rw [this]
    congr 1
    omega
  · have hd := digit_toNat (u % 10) (by omega)
    have := parse_snoc _ 0 (u / 10) (UInt8.ofNat (48 + u % 10)) (ih (by omega)) ⟨by omega, by omega⟩ (by omega)
    rw [this, hd]
    congr 1
    omega

theorem atoi_itoa (n : Int) (h0 : -9223372036854775808 ≤ n) (h1 : n ≤ 9223372036854775807) : Lib.atoiAll (Lib.itoa n) = .ok n := by
  unfold Lib.itoa
  by_cases h : n < 0
  · rw [if_pos h]
    have hp := parse_dec n.natAbs (by omega)
    simp only [Lib.atoiAll]
    rw [if_pos (by decide), Lib.parseMag, if_neg (dec_ne _), hp]
    simp only []
    rw [if_neg (by simp), if_neg (by omega), if_pos (by decide)]
    congr 1
    omega
  · rw [if_neg h]
    have hp := parse_dec n.toNat (by omega)
    obtain ⟨c, r, hcr⟩ : ∃ c r, Lib.decDigits n.toNat = c :: r := by
      cases hl : Lib.decDigits n.toNat with
      | nil => exact absurd hl (dec_ne _)
      | cons c r => exact ⟨c, r, rfl⟩
    have hc : IsDig c := dec_dig n.toNat c (by rw [hcr]; simp)
    unfold IsDig at hc
    rw [hcr] at hp ⊢
    simp only [Lib.atoiAll]
    rw [if_neg (by omega), Lib.parseMag, if_neg (by simp), hp]
    simp only []
    rw [if_neg (by omega), if_neg (by omega), if_neg (by omega)]
    congr 1
    omega

theorem itoa_inj (n m : Int) (h0 : -9223372036854775808 ≤ n) (h1 : n ≤ 9223372036854775807) (h2 : -9223372036854775808 ≤ m) (h3 : m ≤ 9223372036854775807) (h : Lib.itoa n = Lib.itoa m) : n = m := by
  have e := atoi_itoa n h0 h1
  rw [h, atoi_itoa m h2 h3] at e
  injection e with e
  exact e.symm

end Go.Proofs.YtlmbnefoobameaaDoor
