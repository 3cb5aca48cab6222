/- impl.Join joins. -/
import Derived.Test.YtmacbkcjeamaeaaBuilder
import Derived.Test.YtmacbkcjeamaeaaJoinFn
import Derived.Deep.DeepMust
namespace Go.Proofs.Ytmacbkcjeamaeaa
open Go.RowKit

theorem byteCells_eq (l : List UInt8) : Lib.byteCells l = cellsOf l := rfl

set_option maxHeartbeats 400000 in
theorem implJoin_any (A : Option Addr) (c : Nat) (ss : List ByteArray) (sep : ByteArray) (w : World) (hA : StrsAt w w.heap.size A ss) (hn : ss.length ≤ 1048576) (hsum : sumSizes ss ≤ 1048576) (hsep : sep.size ≤ 1048576) :
    Calls Try.prog 96 #[.slice A ss.length c, .string sep] w fun e w' => e = .returned (.string ⟨(joinTo ss sep ss.length).toArray⟩) ∧ Below w.heap.size w w' := by
  have hstart := Lib.fresh_isBuilder 138 5 w
  go_enter Try.func96, Try.ntmps96
  go_wp2
  go_loopw [10] (fun i wr => ∃ k : Nat, k ≤ ss.length ∧ i = .int .i64 k ∧ Lib.IsBuilder 138 5 w.heap.size w.heap.size (cellsOf (joinTo ss sep k)) wr ∧ Below w.heap.size w wr) (fun i _ => ss.length - (intOf i).toNat)
  case atStart => exact ⟨0, Nat.zero_le _, rfl, hstart, (Below.refl _ _).alloc (Nat.le_refl _) _⟩
  case round =>
    obtain ⟨k, hk, rfl, hbu, hb⟩ := hrel
    clear hstart
    by_cases hlt : k < ss.length
    · obtain ⟨b, off, rfl, hbl, hcell⟩ := (hA.below hb) k hlt
      have hl := joinTo_len ss sep k hk
      have hl1 := sumSizes_take_le ss k
      have hl2 := size_le_sumSizes ss k hlt
      have hl3 : k * sep.size ≤ 1048576 * 1048576 := Nat.mul_le_mul (by omega) hsep
      have hJ : Hid (joinTo ss sep (k + 1) = joinTo ss sep k ++ (if 0 < k then sep.data.toList else []) ++ ss[k].data.toList) := by
        show joinTo ss sep (k + 1) = _
        rw [joinTo]
        simp [hlt]
      by_cases hk0 : k = 0
      · subst hk0
        rw [Nat.add_zero] at hcell
        go_wp2_with (go_at_call 110; refine (Try.writeString w.heap.size w.heap.size _ _ _ hbu (by rw [cellsOf_len]; omega) hb.size).mono ?_; rintro e w1 ⟨rfl, hbu1, hb1⟩)
        go_roundw
        case rel => exact ⟨1, by omega, by go_num, by rw [show joinTo ss sep 1 = _ from hJ.out]; exact .inr (by simpa [cellsOf_append, cellsOf_str, joinTo, cellsOf] using hbu1), hb.trans hb1⟩
        case measure => simp [intOf]; omega
      · go_wp2_with fail
        refine (Try.writeString w.heap.size w.heap.size _ _ _ hbu (by rw [cellsOf_len]; omega) hb.size).mono ?_
        rintro e w1 ⟨rfl, hbu1, hb1⟩
        have hcell1 := (hb1.cell (p := ⟨b, off + k, none⟩) hbl).trans hcell
        have hb1' := hb.trans hb1
        clear hcell
        go_wp2_with fail
        refine (Try.writeString w.heap.size w.heap.size _ _ _ (.inr hbu1) (by rw [List.length_append, cellsOf_len, Lib.strCells_length]; omega) hb1'.size).mono ?_
        rintro e w2 ⟨rfl, hbu2, hb2⟩
        go_wp2
        go_roundw
        case rel => exact ⟨k + 1, by omega, by go_num, by rw [hJ.out, if_pos (by omega)]; exact .inr (by simpa [cellsOf_append, cellsOf_str] using hbu2), hb1'.trans hb2⟩
        case measure => simp [intOf]; omega
    · have hk' : k = ss.length := by omega
      subst hk'
      go_wp2_with fail
      refine (Try.builderString w.heap.size w.heap.size _ _ hbu hb.size).mono ?_
      rintro e w1 ⟨rfl, hb1⟩
      go_wp2
      go_ret
      exact ⟨rfl, hb.trans hb1⟩

end Go.Proofs.Ytmacbkcjeamaeaa
