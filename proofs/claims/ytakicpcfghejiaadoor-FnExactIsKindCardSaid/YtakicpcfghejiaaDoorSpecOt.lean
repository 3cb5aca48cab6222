/- spec.SizeOf, spec.DepthOf, spec.l7Left. -/
import Derived.Test.YtakicpcfghejiaaDoorSzOt
import Derived.Test.YtakicpcfghejiaaDoorEqOt
import Derived.Test.YtakicpcfghejiaaDoorSpecTy2
namespace Go.Proofs.YtakicpcfghejiaaDoor
open Go.RowKit

mutual
/-- The number of nodes. -/
def sizeOt : Ot → Nat | .mk _ _ _ ts => 1 + sizeOts ts
def sizeOts : List Ot → Nat | [] => 0 | t :: r => sizeOt t + sizeOts r
end
theorem sizeOt_eq (t : Ot) : sizeOt t = 1 + sizeOts t.args := by cases t; rw [sizeOt]; rfl
theorem sizeOts_append : ∀ (a b : List Ot), sizeOts (a ++ b) = sizeOts a + sizeOts b
  | [], b => by simp [sizeOts]
  | t :: a, b => by
    rw [List.cons_append, sizeOts, sizeOts, sizeOts_append a b]
    omega
theorem sizeOts_take (ts : List Ot) (k : Nat) (h : k < ts.length) : sizeOts (ts.take (k + 1)) = sizeOts (ts.take k) + sizeOt ts[k] := by
  rw [List.take_succ_eq_append_getElem h, sizeOts_append, sizeOts, sizeOts]
  omega
theorem sizeOts_le (ts : List Ot) (k : Nat) : sizeOts (ts.take k) ≤ sizeOts ts := by
  have h := sizeOts_append (ts.take k) (ts.drop k)
  rw [List.take_append_drop] at h
  omega
mutual
theorem size_le_szO : ∀ (t : Ot), sizeOt t ≤ szOt t + 1
  | .mk _ _ _ ts => by
    rw [sizeOt, szOt]
    have := sizes_le_szOs ts
    omega
theorem sizes_le_szOs : ∀ (ts : List Ot), sizeOts ts ≤ szOts ts
  | [] => Nat.le_refl _
  | t :: r => by
    rw [sizeOts, szOts]
    have := size_le_szO t
    have := sizes_le_szOs r
    omega
end
mutual
/-- The depth. -/
def depthOt : Ot → Nat | .mk _ _ _ ts => depthOts ts + 1
def depthOts : List Ot → Nat | [] => 0 | t :: r => max (depthOt t) (depthOts r)
end
theorem depthOt_eq (t : Ot) : depthOt t = depthOts t.args + 1 := by cases t; rw [depthOt]; rfl
theorem depthOts_append : ∀ (a b : List Ot), depthOts (a ++ b) = max (depthOts a) (depthOts b)
  | [], b => by simp [depthOts]
  | t :: a, b => by
    rw [List.cons_append, depthOts, depthOts, depthOts_append a b]
    omega
theorem depthOts_take (ts : List Ot) (k : Nat) (h : k < ts.length) : depthOts (ts.take (k + 1)) = max (depthOts (ts.take k)) (depthOt ts[k]) := by
  rw [List.take_succ_eq_append_getElem h, depthOts_append, depthOts, depthOts]
  omega
mutual
theorem depth_le_sizeO : ∀ (t : Ot), depthOt t ≤ sizeOt t
  | .mk _ _ _ ts => by
    rw [depthOt, sizeOt]
    have := depths_le_sizesO ts
    omega
theorem depths_le_sizesO : ∀ (ts : List Ot), depthOts ts ≤ sizeOts ts
  | [] => Nat.le_refl _
  | t :: r => by
    rw [depthOts, sizeOts]
    have := depth_le_sizeO t
    have := depths_le_sizesO r
    omega
end
def SizeOOne (f : Nat) (t : Ot) : Prop := ∀ (v : Value) (w : World), OtAt w w.heap.size v t → sizeOt t ≤ 2000000 → Calls Tryd.prog f #[v] w (IntBelow (sizeOt t) w)

def DepthOOne (f : Nat) (t : Ot) : Prop := ∀ (v : Value) (w : World), OtAt w w.heap.size v t → sizeOt t ≤ 2000000 → Calls Tryd.prog f #[v] w (IntBelow (depthOt t) w)

def LeftOOne (f : Nat) (t : Ot) : Prop := ∀ (v : Value) (left : Int) (w : World), OtAt w w.heap.size v t → 0 ≤ left → left ≤ 1000000 → Calls Tryd.prog f #[v, .int .i64 left] w (IntBelow (leftOf left (sizeOt t)) w)

end Go.Proofs.YtakicpcfghejiaaDoor
