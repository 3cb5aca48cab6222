/- laws.toStringS makes a new slice of the same strings. -/
import Derived.Test.YtmacbkcjeamaeaaProg
import Derived.Test.YtmacbkcjeamaeaaStrs
namespace Go.Proofs.Ytmacbkcjeamaeaa
open Go.RowKit

theorem infoString : (Try.prog.info? 9).map (fun i => (i.zero, i.size, i.bytes)) = some (some (.string ⟨#[]⟩), 1, 16) := by kernel_rfl

/-- A new slice of the strings ss is handed back. -/
def NewStrs (w : World) (ss : List ByteArray) (e : Ending) (w' : World) : Prop :=
  ∃ g, e = .returned (.slice (some ⟨g, 0, none⟩) ss.length ss.length) ∧ w.heap.size ≤ g ∧ Whole1 w' g 9 (strVals ss).toArray ∧ Below w.heap.size w w'

set_option maxHeartbeats 400000 in
theorem toStringS_any (A : Option Addr) (c : Nat) (ss : List ByteArray) (w : World) (hA : StrsAt w w.heap.size A ss) (hn : ss.length ≤ 1048576) :
    Calls Try.prog 50 #[.slice A ss.length c] w (NewStrs w ss) := by
  have hmk := run_make_strs (P := Try.prog) Try.underlying24 infoString ss.length hn
  go_enter Try.func50, Try.ntmps50
  go_wp2
  go_loopw [4] (fun i wr => ∃ k : Nat, k ≤ ss.length ∧ i = .int .i64 k ∧ Whole1 wr w.heap.size 9 (filled ss k) ∧ Below w.heap.size w wr) (fun i _ => ss.length - (intOf i).toNat)
  case atStart => exact ⟨0, Nat.zero_le _, rfl, by rw [filled_zero]; exact Whole1.new _ _ _, (Below.refl _ _).alloc (Nat.le_refl _) _⟩
  case round =>
    obtain ⟨k, hk, rfl, hwh, hb⟩ := hrel
    clear hmk
    by_cases hlt : k < ss.length
    · obtain ⟨b, off, rfl, hbl, hcell⟩ := (hA.below hb) k hlt
      have hc1 : wr.cell? ⟨w.heap.size, k, none⟩ = (filled ss k)[k]? := hwh.cell k
      obtain ⟨s0, hs0⟩ := filled_at ss k k hlt
      rw [hs0] at hc1
      have hf1 : wr.frozen? ⟨w.heap.size, k, none⟩ = false := hwh.free k
      have hset := Lib.hid (hwh.set k (.string ss[k]))
      clear hs0 hwh
      go_wp2
      go_roundw
      case rel => exact ⟨k + 1, by omega, by go_num, by rw [← filled_succ ss k hlt]; exact hset.out, hb.setCell (Nat.le_refl _) _⟩
      case measure => simp [intOf]; omega
    · go_wp2
      go_ret
      have hk' : k = ss.length := by omega
      subst hk'
      rw [filled_all] at hwh
      exact ⟨_, rfl, Nat.le_refl _, hwh, hb⟩

end Go.Proofs.Ytmacbkcjeamaeaa
