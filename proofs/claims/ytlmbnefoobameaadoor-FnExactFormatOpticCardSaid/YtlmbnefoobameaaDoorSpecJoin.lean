/- spec.Join joins. -/
import Derived.Test.YtlmbnefoobameaaDoorProg
import Derived.Test.YtlmbnefoobameaaDoorSz
import Derived.Deep.DeepMust
namespace Go.Proofs.YtlmbnefoobameaaDoor
open Go.RowKit

theorem infoByte : (Tryd.prog.info? 5).map (fun i => (i.zero, i.size, i.bytes)) = some (some (.int .u8 0), 1, 1) := by kernel_rfl

set_option maxHeartbeats 400000 in
set_option maxRecDepth 100000 in
theorem specJoin_any (A : Option Addr) (c : Nat) (ss : List ByteArray) (sep : ByteArray) (w : World) (hA : StrsAt w w.heap.size A ss) (hn : ss.length ≤ 1048576) (hsum : sumSizes ss ≤ 1048576) (hsep : sep.size ≤ 1048576) :
    Calls Tryd.prog 97 #[.slice A ss.length c, .string sep] w fun e w' => e = .returned (.string ⟨(joinTo ss sep ss.length).toArray⟩) ∧ Below w.heap.size w w' := by
  obtain ⟨i0, hi, hz0, hz1, hz2⟩ := info_parts infoByte
  go_enter Tryd.func97, Tryd.ntmps97
  go_wp2
  go_loopw [5, 6] (fun v i wr => ∃ k : Nat, k ≤ ss.length ∧ i = .int .i64 k ∧ wr.ownsRow w.heap.size 5 1 v (joinTo ss sep k).length (cellsOf (joinTo ss sep k)) ∧ Below w.heap.size w wr) (fun _ i _ => ss.length - (intOf i).toNat)
  case atStart => exact ⟨0, Nat.zero_le _, rfl, World.ownsRow_lit w #[] 0 (Nat.le_refl _) (Nat.zero_le _) rfl, (Below.refl _ _).alloc (Nat.le_refl _) _⟩
  case round =>
    obtain ⟨k, hk, rfl, hown, hb⟩ := hrel
    by_cases hlt : k < ss.length
    · obtain ⟨b, off, rfl, hbl, hcell⟩ := (hA.below hb) k hlt
      have hl := joinTo_len ss sep k hk
      have hl1 := sumSizes_take_le ss k
      have hl2 := size_le_sumSizes ss k hlt
      have hl3 : k * sep.size ≤ 1048576 * 1048576 := Nat.mul_le_mul (by omega) hsep
      have hJ : Hid (joinTo ss sep (k + 1) = joinTo ss sep k ++ (if 0 < k then sep.data.toList else []) ++ ss[k].data.toList) := by
        show joinTo ss sep (k + 1) = _
        rw [joinTo]
        simp [hlt]
      by_cases hk0 : k = 0
      · subst hk0
        rw [Nat.add_zero] at hcell
        go_wp2_with (at_builtin; go_must (refine Lib.wpList_append_own_string _ rfl (.tmp 19) (.tmp 23) _ _ rfl w.heap.size 5 i0 Tryd.underlying22 Tryd.underlying9 hi hz0 hz1 hz2 _ _ _ rfl hown ss[0] rfl (by unfold maxLen; omega) (by omega) hb.size ?_); intro v1 w1 hown1 hg1 _)
        have hb1 := hb.grown hg1 hb.size (fun q hq => (hown.lt q hq).1)
        clear hg1 hown
        go_roundw
        case rel => exact ⟨1, by omega, by go_num, by rw [show joinTo ss sep 1 = _ from hJ.out]; simpa [cellsOf_append, cellsOf_str, joinTo, cellsOf] using hown1, hb1⟩
        case measure => simp [intOf]; omega
      · go_wp2_with (at_builtin; first
          | (refine Lib.wpList_append_own_string _ rfl (.tmp 16) (.tmp 17) _ _ rfl w.heap.size 5 i0 Tryd.underlying22 Tryd.underlying9 hi hz0 hz1 hz2 _ _ _ rfl hown sep rfl (by unfold maxLen; omega) (by omega) hb.size ?_; intro v1 w1 hown1 hg1 _; have hb1 := hb.grown hg1 hb.size (fun q hq => (hown.lt q hq).1); have hcell1 := (hb1.cell (p := ⟨b, off + k, none⟩) hbl).trans ((hb.cell (p := ⟨b, off + k, none⟩) hbl).symm.trans hcell); clear hg1 hown hcell)
          | (refine Lib.wpList_append_own_string _ rfl (.tmp 19) (.tmp 23) _ _ rfl w.heap.size 5 i0 Tryd.underlying22 Tryd.underlying9 hi hz0 hz1 hz2 _ _ _ rfl hown1 ss[k] rfl (by unfold maxLen; omega) (by omega) hb1.size ?_; intro v2 w2 hown2 hg2 _; have hb2 := hb1.grown hg2 hb1.size (fun q hq => (hown1.lt q hq).1); clear hg2 hown1))
        go_roundw
        case rel => exact ⟨k + 1, by omega, by go_num, by rw [hJ.out, if_pos (by omega)]; simpa [cellsOf_append, cellsOf_str, Nat.add_assoc, size_list] using hown2, hb2⟩
        case measure => simp [intOf]; omega
    · have hk' : k = ss.length := by omega
      subst hk'
      have hconv := run_convert_owned (P := Tryd.prog) (dst := 9) Tryd.underlying22 Tryd.underlying5 Tryd.underlying9 hown
      go_wp2
      go_ret
      exact ⟨rfl, hb⟩

end Go.Proofs.YtlmbnefoobameaaDoor
