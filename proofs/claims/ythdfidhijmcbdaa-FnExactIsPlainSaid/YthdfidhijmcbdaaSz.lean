/- laws.toStringS makes a new slice of the same strings. -/
import Derived.Test.YthdfidhijmcbdaaProg
import Derived.Test.YthdfidhijmcbdaaAppend
import Derived.Lib.AppendStr
import Derived.Laws.BytesArg
import Derived.Laws.IdiomStrings

namespace Go.Proofs.Ythdfidhijmcbdaa
open Go.RowKit

theorem infoString : (Try.prog.info? 9).map (fun i => (i.zero, i.size, i.bytes)) = some (some (.string ⟨#[]⟩), 1, 16) := by kernel_rfl

/-- A new slice of the strings ss is handed back. -/
def NewStrs (w : World) (ss : List ByteArray) (e : Ending) (w' : World) : Prop :=
  ∃ g, e = .returned (.slice (some ⟨g, 0, none⟩) ss.length ss.length) ∧ w.heap.size ≤ g ∧ Whole1 w' g 9 (strVals ss).toArray ∧ Below w.heap.size w w'

end Go.Proofs.Ythdfidhijmcbdaa

namespace Go.Proofs.Ythdfidhijmcbdaa
open Go.RowKit

/-- True is handed back; the world only drew. -/
def TrueDrew (w : World) (e : Ending) (w' : World) : Prop := e = .returned (.bool true) ∧ ∃ n, w' = w.drewN n

end Go.Proofs.Ythdfidhijmcbdaa

namespace Go.Proofs.Ythdfidhijmcbdaa
open Go.RowKit

/-- The bytes of the first k strings with sep between. -/
def joinTo (ss : List ByteArray) (sep : ByteArray) : Nat → List UInt8
  | 0 => []
  | k + 1 => joinTo ss sep k ++ (if 0 < k then sep.data.toList else []) ++ (ss.getD k ⟨#[]⟩).data.toList

theorem joinTo_len (ss : List ByteArray) (sep : ByteArray) (k : Nat) (h : k ≤ ss.length) : (joinTo ss sep k).length ≤ sumSizes (ss.take k) + k * sep.size := by
  induction k with
  | zero => simp [joinTo]
  | succ k ih =>
    have h1 := ih (by omega)
    have h2 := sumSizes_take_succ ss k (by omega)
    have h3 : (ss.getD k ⟨#[]⟩).data.toList.length = ss[k].size := by simp [show k < ss.length by omega]
    have h4 : sep.data.toList.length = sep.size := by simp
    rw [joinTo, List.length_append, List.length_append, h2, h3, Nat.add_mul]
    split
    · omega
    · simp; omega

/-- Bytes as cells. -/
def cellsOf (l : List UInt8) : List Value := l.map fun b => Value.int .u8 (b.toNat : Int)
theorem cellsOf_append (a b : List UInt8) : cellsOf (a ++ b) = cellsOf a ++ cellsOf b := by simp [cellsOf]
theorem cellsOf_str (s : ByteArray) : Lib.strCells s = cellsOf s.data.toList := rfl
theorem cellsOf_len (l : List UInt8) : (cellsOf l).length = l.length := by simp [cellsOf]
theorem size_list (s : ByteArray) : s.data.toList.length = s.size := by simp

/-- string(b) of an owned row. -/
theorem run_convert_owned {P : Program} {w : World} {base n : Nat} {src dst e : TypeId} {v : Value} {l : List UInt8} (hs : P.underlying src = some (.slice e)) (he : P.underlying e = some (.int .u8)) (hd : P.underlying dst = some .string)
    (h : w.ownsRow base e 1 v n (cellsOf l)) : (convert src dst v).run P w = .ok (.string ⟨l.toArray⟩) w := by
  have hl : l.length = n := by simpa [cellsOf_len] using h.1
  rcases h.2 with ⟨rfl, h0⟩ | ⟨g, cap, cur, rfl, _⟩
  · have : l = [] := List.eq_nil_of_length_eq_zero (by omega)
    subst this
    rw [run_convert_bytes_nil w src e hs he 0 0 dst hd]
    rfl
  · rw [← hl]
    refine run_convert_bytes_back w src dst e ⟨g, 0, none⟩ cap l hs he hd fun j hj => ?_
    exact h.cells (g := g) rfl j _ (by simp [cellsOf, hj])

end Go.Proofs.Ythdfidhijmcbdaa

namespace Go.Proofs.Ythdfidhijmcbdaa
open Go.RowKit

def szStrs (left : Int) (ss : List ByteArray) : Int := if left - ss.length - sumSizes ss < 0 then -1 else left - ss.length - sumSizes ss
theorem ret_i64 {a b : Int} (h : a = b) : Ending.returned (.int .i64 a) = .returned (.int .i64 b) := by rw [h]

end Go.Proofs.Ythdfidhijmcbdaa
