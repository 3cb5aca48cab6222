/- spec.SizeOfType, spec.DepthOfType, spec.l3Left. -/
import Derived.Test.YthdfidhijmcbdaaSzTy
import Derived.Test.YthdfidhijmcbdaaToTy

namespace Go.Proofs.Ythdfidhijmcbdaa
open Go.RowKit

mutual
/-- The number of nodes. -/
def sizeTy : Ty → Nat | .mk _ _ ts => 1 + sizeTys ts
def sizeTys : List Ty → Nat | [] => 0 | t :: r => sizeTy t + sizeTys r
end
mutual
/-- The depth. -/
def depthTy : Ty → Nat | .mk _ _ ts => depthTys ts + 1
def depthTys : List Ty → Nat | [] => 0 | t :: r => max (depthTy t) (depthTys r)
end
theorem sizeTy_eq (t : Ty) : sizeTy t = 1 + sizeTys t.args := by cases t; rw [sizeTy]; rfl
theorem depthTy_eq (t : Ty) : depthTy t = depthTys t.args + 1 := by cases t; rw [depthTy]; rfl
theorem sizeTys_append : ∀ (a b : List Ty), sizeTys (a ++ b) = sizeTys a + sizeTys b
  | [], b => by simp [sizeTys]
  | t :: a, b => by
    rw [List.cons_append, sizeTys, sizeTys, sizeTys_append a b]
    omega
theorem sizeTys_take (ts : List Ty) (k : Nat) (h : k < ts.length) : sizeTys (ts.take (k + 1)) = sizeTys (ts.take k) + sizeTy ts[k] := by
  rw [List.take_succ_eq_append_getElem h, sizeTys_append, sizeTys, sizeTys]
  omega
theorem sizeTys_le (ts : List Ty) (k : Nat) : sizeTys (ts.take k) ≤ sizeTys ts := by
  have h := sizeTys_append (ts.take k) (ts.drop k)
  rw [List.take_append_drop] at h
  omega
theorem depthTys_append : ∀ (a b : List Ty), depthTys (a ++ b) = max (depthTys a) (depthTys b)
  | [], b => by simp [depthTys]
  | t :: a, b => by
    rw [List.cons_append, depthTys, depthTys, depthTys_append a b]
    omega
theorem depthTys_take (ts : List Ty) (k : Nat) (h : k < ts.length) : depthTys (ts.take (k + 1)) = max (depthTys (ts.take k)) (depthTy ts[k]) := by
  rw [List.take_succ_eq_append_getElem h, depthTys_append, depthTys, depthTys]
  omega
mutual
theorem size_le_sz : ∀ (t : Ty), sizeTy t ≤ szTy t + 1
  | .mk _ ls ts => by
    rw [sizeTy, szTy]
    have := sizes_le_szs ts
    omega
theorem sizes_le_szs : ∀ (ts : List Ty), sizeTys ts ≤ szTys ts
  | [] => Nat.le_refl _
  | t :: r => by
    rw [sizeTys, szTys]
    have := size_le_sz t
    have := sizes_le_szs r
    omega
end
mutual
theorem depth_le_size : ∀ (t : Ty), depthTy t ≤ sizeTy t
  | .mk _ _ ts => by
    rw [depthTy, sizeTy]
    have := depths_le_sizes ts
    omega
theorem depths_le_sizes : ∀ (ts : List Ty), depthTys ts ≤ sizeTys ts
  | [] => Nat.le_refl _
  | t :: r => by
    rw [depthTys, sizeTys]
    have := depth_le_size t
    have := depths_le_sizes r
    omega
end

/-- A tree is boxed: what the box holds, and what its parts are. -/
theorem boxTy {w : World} {t : Ty} {v : Value} (hv : TyAt w w.heap.size v t) : ∃ L lc A ac, v = .agg #[.int .i64 t.kind, .slice L t.labels.length lc, .slice A t.args.length ac] ∧
    t.labels.length ≤ maxLen ∧ (∀ i, (h : i < t.labels.length) → t.labels[i].size ≤ maxLen) ∧ StrsAt w w.heap.size L t.labels ∧ TysAt w w.heap.size A t.args := hv.open

def SizeOne (f : Nat) (t : Ty) : Prop := ∀ (v : Value) (w : World), TyAt w w.heap.size v t → sizeTy t ≤ 2000000 → Calls Try.prog f #[v] w (IntBelow (sizeTy t) w)

end Go.Proofs.Ythdfidhijmcbdaa

namespace Go.Proofs.Ythdfidhijmcbdaa
open Go.RowKit

theorem l1Max_any (a b : Int) (w : World) : Calls Try.prog 28 #[.int .i64 a, .int .i64 b] w fun e w' => e = .returned (.int .i64 (max a b)) ∧ w = w' := by
  by_cases h : b < a
  · have e : max a b = a := by omega
    rw [e]
    clear e
    go_enter Try.func28, Try.ntmps28
    go_wp2
    go_ret
    exact ⟨rfl, rfl⟩
  · have e : max a b = b := by omega
    rw [e]
    clear e
    go_enter Try.func28, Try.ntmps28
    go_wp2
    go_ret
    exact ⟨rfl, rfl⟩

def DepthOne (f : Nat) (t : Ty) : Prop := ∀ (v : Value) (w : World), TyAt w w.heap.size v t → sizeTy t ≤ 2000000 → Calls Try.prog f #[v] w (IntBelow (depthTy t) w)

def LeftOne (f : Nat) (t : Ty) : Prop := ∀ (v : Value) (left : Int) (w : World), TyAt w w.heap.size v t → 0 ≤ left → left ≤ 1000000 → Calls Try.prog f #[v, .int .i64 left] w (IntBelow (leftOf left (sizeTy t)) w)

theorem leftOf_step (left : Int) (a b : Nat) (h : 0 ≤ leftOf left a) : leftOf (leftOf left a) b = leftOf left (a + b) := by
  unfold leftOf at *
  by_cases h1 : left - (a : Int) < 0
  · rw [if_pos h1] at h
    omega
  · rw [if_neg h1] at h ⊢
    by_cases h2 : left - (a : Int) - (b : Int) < 0
    · rw [if_pos h2, if_pos (by omega)]
    · rw [if_neg h2, if_neg (by omega)]
      omega
theorem leftOf_neg (left : Int) (a b : Nat) (h : leftOf left a = -1) (hab : a ≤ b) : leftOf left b = -1 := by
  unfold leftOf at *
  by_cases h1 : left - (a : Int) < 0
  · rw [if_pos (by omega)]
  · rw [if_neg h1] at h
    omega
theorem leftOf_le (left : Int) (a : Nat) (h : 0 ≤ left) : leftOf left a ≤ left := by
  unfold leftOf
  split <;> omega

end Go.Proofs.Ythdfidhijmcbdaa
