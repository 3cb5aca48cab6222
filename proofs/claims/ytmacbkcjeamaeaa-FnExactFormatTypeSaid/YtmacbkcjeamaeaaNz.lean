/- Digits one by one, and string([]byte{x}), free of the program. -/
import Derived.WalkKit
import Derived.Lib.Hide
import Derived.Lib.ItoaNum
import Derived.Laws.BytesArg
namespace Go.Proofs.Ytmacbkcjeamaeaa
open Go.RowKit

/-- The digits of u, none for 0. -/
def nz (u : Nat) : List UInt8 := if u = 0 then [] else Lib.decDigits u
theorem nz_step (u : Nat) (h : 0 < u) : nz u = nz (u / 10) ++ [UInt8.ofNat (48 + u % 10)] := by
  unfold nz
  rw [if_neg (by omega), Lib.decDigits]
  by_cases h1 : u < 10
  · rw [dif_pos h1, if_pos (by omega), show u % 10 = u by omega]
    rfl
  · rw [dif_neg h1, if_neg (by omega)]

theorem nz_len (n : Nat) : (nz n).length ≤ n := by
  induction n using Nat.strongRecOn with
  | ind n ih =>
    by_cases h : n = 0
    · subst h; simp [nz]
    · have := ih (n / 10) (by omega)
      rw [nz_step n (by omega), List.length_append]
      simp
      omega
theorem nz_len_of (k : Nat) : ∀ n, n < 10 ^ k → (nz n).length ≤ k := by
  induction k with
  | zero => 
    intro n h
    have h0 : n = 0 := by rw [Nat.pow_zero] at h; omega
    subst h0
    simp [nz]
  | succ k ih =>
    intro n h
    by_cases h0 : n = 0
    · subst h0; simp [nz]
    · have := ih (n / 10) (by rw [Nat.div_lt_iff_lt_mul (by omega)]; rw [Nat.pow_succ] at h; exact h)
      rw [nz_step n (by omega), List.length_append]
      simp
      omega
theorem nz_pos (n : Nat) (h : 0 < n) : 0 < (nz n).length := by
  rw [nz_step n h, List.length_append]
  simp

/-- string([]byte{x}). -/
theorem run_convert_byte {P : Program} {src e dst : TypeId} (hs : P.underlying src = some (.slice e)) (he : P.underlying e = some (.int .u8)) (hd : P.underlying dst = some .string) (W : World) (x : Int) :
    (convert src dst (.slice (some ⟨W.heap.size, 0, none⟩) 1 1)).run P (W.alloc (.cells #[.int .u8 x] e)) = .ok (.string ⟨#[UInt8.ofNat x.toNat]⟩) (W.alloc (.cells #[.int .u8 x] e)) := by
  refine run_convert_bytes_arg _ src e hs he W.heap.size 0 1 1 [x] rfl (fun i hi => ?_) dst hd
  have h0 : i = 0 := by omega
  subst h0
  rw [World.cell?_alloc_at _ _ _ _ rfl]
  rfl

end Go.Proofs.Ytmacbkcjeamaeaa
