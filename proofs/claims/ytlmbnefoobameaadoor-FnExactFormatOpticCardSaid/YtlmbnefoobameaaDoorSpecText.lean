/- spec.l4Text and spec.FormatType give the text of a tree. -/
import Derived.Test.YtlmbnefoobameaaDoorTxtLen
import Derived.Test.YtlmbnefoobameaaDoorSpecJoin
import Derived.Test.YtlmbnefoobameaaDoorLabeled
namespace Go.Proofs.YtlmbnefoobameaaDoor
open Go.RowKit

/-- The string is handed back. -/
def StrIs (s : ByteArray) (w : World) (e : Ending) (w' : World) : Prop := e = .returned (.string s) ∧ Below w.heap.size w w'
/-- What the text is joined of. -/
def piecesOf (k : Int) (ls : List ByteArray) (ts : List Ty) : List (List UInt8) := if k = 5 then txts ts else lab ls (txts ts)
theorem bytesOf_len (xs : List (List UInt8)) : (bytesOf xs).length = xs.length := by simp [bytesOf]

theorem sizeTys_len : ∀ (ts : List Ty), ts.length ≤ sizeTys ts
  | [] => Nat.le_refl _
  | t :: r => by
    have h1 := sizeTys_len r
    have h2 := sizeTy_eq t
    rw [sizeTys, List.length_cons]
    omega

def TextOne (f : Nat) (t : Ty) : Prop := ∀ (v : Value) (w : World), TyAt w w.heap.size v t → formTy t = true → sizeTy t ≤ 1000 → Calls Tryd.prog f #[v] w (StrIs ⟨(txt t).toArray⟩ w)

theorem own_strings {w : World} {base n : Nat} {v : Value} {ss : List ByteArray} (h : w.ownsRow base 9 1 v n (strVals ss)) : ∃ A c, v = .slice A ss.length c ∧ StrsAt w w.heap.size A ss := by
  rcases RowStrs.of_own h with ⟨rfl, rfl⟩ | ⟨g, cap, rfl, h1, h2⟩
  · exact ⟨none, 0, rfl, StrsAt.empty _ _ _⟩
  · exact ⟨_, _, rfl, h2.at _ h2.lt⟩
theorem byte3 (a : UInt8) (x : List UInt8) (b : UInt8) : (⟨#[a]⟩ ++ ⟨x.toArray⟩ ++ ⟨#[b]⟩ : ByteArray) = ⟨(a :: (x ++ [b])).toArray⟩ := by
  apply ByteArray.ext
  rw [ByteArray.data_append, ByteArray.data_append]
  simp

end Go.Proofs.YtlmbnefoobameaaDoor
