/- laws.toStringS makes a new slice of the same strings. -/
import Derived.Test.YthdfidhijmcbdaaGreatDoorProg
import Derived.Test.YthdfidhijmcbdaaGreatDoorAppend
import Derived.Lib.AppendStr
import Derived.Laws.BytesArg
import Derived.Laws.IdiomStrings

namespace Go.Proofs.YthdfidhijmcbdaaGreatDoor
open Go.RowKit

theorem infoString : (Tryz.prog.info? 9).map (fun i => (i.zero, i.size, i.bytes)) = some (some (.string ⟨#[]⟩), 1, 16) := by kernel_rfl

/-- A new slice of the strings ss is handed back. -/
def NewStrs (w : World) (ss : List ByteArray) (e : Ending) (w' : World) : Prop :=
  ∃ g, e = .returned (.slice (some ⟨g, 0, none⟩) ss.length ss.length) ∧ w.heap.size ≤ g ∧ Whole1 w' g 9 (strVals ss).toArray ∧ Below w.heap.size w w'

set_option maxHeartbeats 400000 in
theorem toStringS_any (A : Option Addr) (c : Nat) (ss : List ByteArray) (w : World) (hA : StrsAt w w.heap.size A ss) (hn : ss.length ≤ 1048576) :
    Calls Tryz.prog 48 #[.slice A ss.length c] w (NewStrs w ss) := by
  have hmk := run_make_strs (P := Tryz.prog) Tryz.underlying24 infoString ss.length hn
  go_enter Tryz.func48, Tryz.ntmps48
  go_wp2
  go_loopw [4] (fun i wr => ∃ k : Nat, k ≤ ss.length ∧ i = .int .i64 k ∧ Whole1 wr w.heap.size 9 (filled ss k) ∧ Below w.heap.size w wr) (fun i _ => ss.length - (intOf i).toNat)
  case atStart => exact ⟨0, Nat.zero_le _, rfl, by rw [filled_zero]; exact Whole1.new _ _ _, (Below.refl _ _).alloc (Nat.le_refl _) _⟩
  case round =>
    obtain ⟨k, hk, rfl, hwh, hb⟩ := hrel
    clear hmk
    by_cases hlt : k < ss.length
    · obtain ⟨b, off, rfl, hbl, hcell⟩ := (hA.below hb) k hlt
      have hc1 : wr.cell? ⟨w.heap.size, k, none⟩ = (filled ss k)[k]? := hwh.cell k
      obtain ⟨s0, hs0⟩ := filled_at ss k k hlt
      rw [hs0] at hc1
      have hf1 : wr.frozen? ⟨w.heap.size, k, none⟩ = false := hwh.free k
      have hset := Lib.hid (hwh.set k (.string ss[k]))
      clear hs0 hwh
      go_wp2
      go_roundw
      case rel => exact ⟨k + 1, by omega, by go_num, by rw [← filled_succ ss k hlt]; exact hset.out, hb.setCell (Nat.le_refl _) _⟩
      case measure => simp [intOf]; omega
    · go_wp2
      go_ret
      have hk' : k = ss.length := by omega
      subst hk'
      rw [filled_all] at hwh
      exact ⟨_, rfl, Nat.le_refl _, hwh, hb⟩

end Go.Proofs.YthdfidhijmcbdaaGreatDoor

namespace Go.Proofs.YthdfidhijmcbdaaGreatDoor
open Go.RowKit

/-- True is handed back; the world only drew. -/
def TrueDrew (w : World) (e : Ending) (w' : World) : Prop := e = .returned (.bool true) ∧ ∃ n, w' = w.drewN n

set_option maxHeartbeats 400000 in
theorem eqStringS_same (A A' : Option Addr) (c c' B B' : Nat) (ss : List ByteArray) (w : World) (hA : StrsAt w B A ss) (hA' : StrsAt w B' A' ss) (hn : ss.length ≤ maxLen) :
    Calls Tryz.prog 51 #[.slice A ss.length c, .slice A' ss.length c'] w (TrueDrew w) := by
  unfold maxLen at hn
  have hneq : ((ss.length : Int) != ss.length) = false := by simp
  go_enter Tryz.func51, Tryz.ntmps51
  go_wp2
  go_loopw [5] (fun i wr => ∃ k : Nat, k ≤ ss.length ∧ i = .int .i64 k ∧ ∃ n, wr = w.drewN n) (fun i _ => ss.length - (intOf i).toNat)
  case atStart => exact ⟨0, Nat.zero_le _, rfl, 0, rfl⟩
  case round =>
    obtain ⟨k, hk, rfl, n, rfl⟩ := hrel
    by_cases hlt : k < ss.length
    · obtain ⟨b, off, rfl, hbl, hcell⟩ := hA k hlt
      obtain ⟨b', off', rfl, hbl', hcell'⟩ := hA' k hlt
      go_wp2
      go_quiet (fail)
      go_wp2
      go_roundw
      case rel => exact ⟨k + 1, by omega, by go_num, _, rfl⟩
      case measure => simp [intOf]; omega
    · go_wp2
      go_ret
      exact ⟨rfl, n, rfl⟩

end Go.Proofs.YthdfidhijmcbdaaGreatDoor

namespace Go.Proofs.YthdfidhijmcbdaaGreatDoor
open Go.RowKit

/-- The bytes of the first k strings with sep between. -/
def joinTo (ss : List ByteArray) (sep : ByteArray) : Nat → List UInt8
  | 0 => []
  | k + 1 => joinTo ss sep k ++ (if 0 < k then sep.data.toList else []) ++ (ss.getD k ⟨#[]⟩).data.toList

theorem joinTo_len (ss : List ByteArray) (sep : ByteArray) (k : Nat) (h : k ≤ ss.length) : (joinTo ss sep k).length ≤ sumSizes (ss.take k) + k * sep.size := by
  induction k with
  | zero => simp [joinTo]
  | succ k ih =>
    have h1 := ih (by omega)
    have h2 := sumSizes_take_succ ss k (by omega)
    have h3 : (ss.getD k ⟨#[]⟩).data.toList.length = ss[k].size := by simp [show k < ss.length by omega]
    have h4 : sep.data.toList.length = sep.size := by simp
    rw [joinTo, List.length_append, List.length_append, h2, h3, Nat.add_mul]
    split
    · omega
    · simp; omega

/-- Bytes as cells. -/
def cellsOf (l : List UInt8) : List Value := l.map fun b => Value.int .u8 (b.toNat : Int)
theorem cellsOf_append (a b : List UInt8) : cellsOf (a ++ b) = cellsOf a ++ cellsOf b := by simp [cellsOf]
theorem cellsOf_str (s : ByteArray) : Lib.strCells s = cellsOf s.data.toList := rfl
theorem cellsOf_len (l : List UInt8) : (cellsOf l).length = l.length := by simp [cellsOf]
theorem size_list (s : ByteArray) : s.data.toList.length = s.size := by simp

/-- string(b) of an owned row. -/
theorem run_convert_owned {P : Program} {w : World} {base n : Nat} {src dst e : TypeId} {v : Value} {l : List UInt8} (hs : P.underlying src = some (.slice e)) (he : P.underlying e = some (.int .u8)) (hd : P.underlying dst = some .string)
    (h : w.ownsRow base e 1 v n (cellsOf l)) : (convert src dst v).run P w = .ok (.string ⟨l.toArray⟩) w := by
  have hl : l.length = n := by simpa [cellsOf_len] using h.1
  rcases h.2 with ⟨rfl, h0⟩ | ⟨g, cap, cur, rfl, _⟩
  · have : l = [] := List.eq_nil_of_length_eq_zero (by omega)
    subst this
    rw [run_convert_bytes_nil w src e hs he 0 0 dst hd]
    rfl
  · rw [← hl]
    refine run_convert_bytes_back w src dst e ⟨g, 0, none⟩ cap l hs he hd fun j hj => ?_
    exact h.cells (g := g) rfl j _ (by simp [cellsOf, hj])

end Go.Proofs.YthdfidhijmcbdaaGreatDoor

namespace Go.Proofs.YthdfidhijmcbdaaGreatDoor
open Go.RowKit

def szStrs (left : Int) (ss : List ByteArray) : Int := if left - ss.length - sumSizes ss < 0 then -1 else left - ss.length - sumSizes ss
theorem ret_i64 {a b : Int} (h : a = b) : Ending.returned (.int .i64 a) = .returned (.int .i64 b) := by rw [h]

set_option maxHeartbeats 400000 in
theorem szStringS_any (A : Option Addr) (c B : Nat) (ss : List ByteArray) (left : Int) (w : World) (hA : StrsAt w B A ss) (hn : ss.length ≤ maxLen) (hs : ∀ i, (h : i < ss.length) → ss[i].size ≤ maxLen) (h0 : 0 ≤ left) (h1 : left ≤ 1048576) :
    Calls Tryz.prog 45 #[.slice A ss.length c, .int .i64 left] w fun e w' => e = .returned (.int .i64 (szStrs left ss)) ∧ w = w' := by
  unfold maxLen at hn hs
  by_cases hneg : left - ss.length < 0
  · go_enter Tryz.func45, Tryz.ntmps45
    go_wp2
    go_ret
    exact ⟨ret_i64 (by unfold szStrs; rw [if_pos (by omega)]), rfl⟩
  · go_enter Tryz.func45, Tryz.ntmps45
    go_wp2
    go_loop [1, 5] (fun l i => ∃ k : Nat, k ≤ ss.length ∧ i = .int .i64 k ∧ l = .int .i64 (left - ss.length - sumSizes (ss.take k)) ∧ 0 ≤ left - ss.length - sumSizes (ss.take k)) (fun _ i => ss.length - (intOf i).toNat)
    case atStart => exact ⟨0, Nat.zero_le _, rfl, by simp [sumSizes], by simp [sumSizes]; omega⟩
    case round =>
      obtain ⟨k, hk, rfl, rfl, hp⟩ := hrel
      by_cases hlt : k < ss.length
      · obtain ⟨b, off, rfl, hb, hcell⟩ := hA k hlt
        have hsz := hs k hlt
        have hstep := Lib.hid (sumSizes_take_succ ss k hlt)
        have hle := sumSizes_take_le ss (k + 1)
        by_cases hnext : left - ss.length - sumSizes (ss.take k) - ss[k].size < 0
        · go_wp2
          go_ret
          exact ⟨ret_i64 (by have := hstep.out; unfold szStrs; rw [if_pos (by omega)]), rfl⟩
        · go_wp2
          go_round
          case rel => exact ⟨k + 1, by omega, by go_num, by rw [hstep.out]; congr 1; omega, by rw [hstep.out]; omega⟩
          case measure => simp [intOf]; omega
      · go_wp2
        go_ret
        have hk' : k = ss.length := by omega
        subst hk'
        rw [List.take_length] at hp
        exact ⟨ret_i64 (by unfold szStrs; rw [List.take_length, if_neg (by omega)]), rfl⟩

end Go.Proofs.YthdfidhijmcbdaaGreatDoor
