/- spec.FormatInt gives the decimal numeral. -/
import Derived.Test.YtlmbnefoobameaaDoorProg
import Derived.Test.YtlmbnefoobameaaDoorAppend
namespace Go.Proofs.YtlmbnefoobameaaDoor
open Go.RowKit

set_option maxHeartbeats 400000 in
set_option maxRecDepth 100000 in
theorem specFormatInt_pos (n : Nat) (w : World) (h0 : 0 < n) (h1 : n ≤ 2 ^ 63 - 1) :
    Calls Tryd.prog 96 #[.int .i64 n] w fun e w' => e = .returned (.string ⟨(nz n).toArray⟩) ∧ Below w.heap.size w w' := by
  have hn0 : ((n : Int) == 0) = false := by simp; omega
  have hnl : ¬ (n : Int) < 0 := by omega
  have hcv := run_convert_byte (P := Tryd.prog) Tryd.underlying22 Tryd.underlying5 Tryd.underlying9
  go_enter Tryd.func96, Tryd.ntmps96
  go_wp2
  go_loopw [0, 4] (fun m s wr => ∃ (u : Nat) (out : List UInt8), m = .int .i64 (u : Int) ∧ u ≤ n ∧ s = .string ⟨out.toArray⟩ ∧ nz n = nz u ++ out ∧ Below w.heap.size w wr) (fun m _ _ => (intOf m).toNat)
  case atStart => exact ⟨n, [], rfl, Nat.le_refl _, rfl, by simp, Below.refl _ _⟩
  case round =>
    obtain ⟨u, out, rfl, hu, rfl, hout, hb⟩ := hrel
    have hO := Lib.hid hout
    clear hout
    by_cases hz : u = 0
    · subst hz
      have hz0 : ((0 : Int) != 0) = false := by decide
      go_wp2
      go_ret
      have hE : nz n = out := by
        have := hO.out
        rw [show nz 0 = [] from rfl, List.nil_append] at this
        exact this
      exact ⟨by rw [hE]; rfl, hb⟩
    · have hz0 : ((u : Int) != 0) = true := by simp; omega
      have hb1 : u < 2 ^ 63 := by omega
      have hlen : out.length + 1 ≤ n := by
        have h1 := nz_len n
        have h2 := nz_pos u (by omega)
        rw [hO.out, List.length_append] at h1
        omega
      go_wp2
      go_roundw
      case rel => exact ⟨u / 10, _, by go_num, by omega, rfl, by rw [hO.out, nz_step u (by omega)]; simp, hb.alloc hb.size _⟩
      case measure => simp [intOf]; omega

theorem tmod_neg10 (u : Nat) : (-(u : Int)).tmod 10 = -((u : Int) % 10) := by rw [Int.neg_tmod, Int.tmod_eq_emod_of_nonneg (by omega)]
theorem tdiv_neg10 (u : Nat) : (-(u : Int)).tdiv 10 = -((u : Int) / 10) := by rw [Int.neg_tdiv, Int.tdiv_eq_ediv_of_nonneg (by omega)]

set_option maxHeartbeats 400000 in
set_option maxRecDepth 100000 in
theorem specFormatInt_neg (n : Nat) (w : World) (h0 : 0 < n) (h1 : n ≤ 2 ^ 63) :
    Calls Tryd.prog 96 #[.int .i64 (-(n : Int))] w fun e w' => e = .returned (.string ⟨(45 :: nz n).toArray⟩) ∧ Below w.heap.size w w' := by
  have hn0 : (-(n : Int) == 0) = false := by simp; omega
  have hcv := run_convert_byte (P := Tryd.prog) Tryd.underlying22 Tryd.underlying5 Tryd.underlying9
  go_enter Tryd.func96, Tryd.ntmps96
  go_wp2
  go_loopw [0, 4] (fun m s wr => ∃ (u : Nat) (out : List UInt8), m = .int .i64 (-(u : Int)) ∧ u ≤ n ∧ s = .string ⟨out.toArray⟩ ∧ nz n = nz u ++ out ∧ Below w.heap.size w wr) (fun m _ _ => (intOf m).natAbs)
  case atStart => exact ⟨n, [], rfl, Nat.le_refl _, rfl, by simp, Below.refl _ _⟩
  case round =>
    obtain ⟨u, out, rfl, hu, rfl, hout, hb⟩ := hrel
    have hO := Lib.hid hout
    clear hout
    have hlen0 : out.length ≤ 20 := by
      have h1 := nz_len_of 20 n (by omega)
      rw [hO.out, List.length_append] at h1
      omega
    by_cases hz : u = 0
    · subst hz
      go_wp2
      go_ret
      have hE : nz n = out := by
        have := hO.out
        rw [show nz 0 = [] from rfl, List.nil_append] at this
        exact this
      refine ⟨?_, hb⟩
      rw [hE]
      rfl
    · have hz0 : (-(u : Int) != 0) = true := by simp; omega
      have hb1 : u ≤ 2 ^ 63 := by omega
      have hd := tmod_neg10 u
      have hq := tdiv_neg10 u
      by_cases h10 : (u : Int) % 10 = 0
      · have hD := Lib.hid h10
        have hneg : ¬ -((u : Int) % 10) < 0 := by omega
        clear h10
        go_wp2
        go_roundw
        case rel => exact ⟨u / 10, _, by go_num, by omega, rfl, by rw [hO.out, nz_step u (by omega), show u % 10 = 0 from by have := hD.out; omega, show ((u : Int) % 10) = 0 from hD.out]; simp, hb.alloc hb.size _⟩
        case measure => simp [intOf]; omega
      · have hneg : -((u : Int) % 10) < 0 := by omega
        clear h10
        go_wp2
        go_roundw
        case rel => exact ⟨u / 10, _, by go_num, by omega, rfl, by rw [hO.out, nz_step u (by omega)]; simp, hb.alloc hb.size _⟩
        case measure => simp [intOf]; omega

end Go.Proofs.YtlmbnefoobameaaDoor
