/- spec.SizeOfType, spec.DepthOfType, spec.l3Left. -/
import Derived.Test.YthdfidhijmcbdaaGreatDoorSzTy
import Derived.Test.YthdfidhijmcbdaaGreatDoorToTy

namespace Go.Proofs.YthdfidhijmcbdaaGreatDoor
open Go.RowKit

mutual
/-- The number of nodes. -/
def sizeTy : Ty → Nat | .mk _ _ ts => 1 + sizeTys ts
def sizeTys : List Ty → Nat | [] => 0 | t :: r => sizeTy t + sizeTys r
end
mutual
/-- The depth. -/
def depthTy : Ty → Nat | .mk _ _ ts => depthTys ts + 1
def depthTys : List Ty → Nat | [] => 0 | t :: r => max (depthTy t) (depthTys r)
end
theorem sizeTy_eq (t : Ty) : sizeTy t = 1 + sizeTys t.args := by cases t; rw [sizeTy]; rfl
theorem depthTy_eq (t : Ty) : depthTy t = depthTys t.args + 1 := by cases t; rw [depthTy]; rfl
theorem sizeTys_append : ∀ (a b : List Ty), sizeTys (a ++ b) = sizeTys a + sizeTys b
  | [], b => by simp [sizeTys]
  | t :: a, b => by
    rw [List.cons_append, sizeTys, sizeTys, sizeTys_append a b]
    omega
theorem sizeTys_take (ts : List Ty) (k : Nat) (h : k < ts.length) : sizeTys (ts.take (k + 1)) = sizeTys (ts.take k) + sizeTy ts[k] := by
  rw [List.take_succ_eq_append_getElem h, sizeTys_append, sizeTys, sizeTys]
  omega
theorem sizeTys_le (ts : List Ty) (k : Nat) : sizeTys (ts.take k) ≤ sizeTys ts := by
  have h := sizeTys_append (ts.take k) (ts.drop k)
  rw [List.take_append_drop] at h
  omega
theorem depthTys_append : ∀ (a b : List Ty), depthTys (a ++ b) = max (depthTys a) (depthTys b)
  | [], b => by simp [depthTys]
  | t :: a, b => by
    rw [List.cons_append, depthTys, depthTys, depthTys_append a b]
    omega
theorem depthTys_take (ts : List Ty) (k : Nat) (h : k < ts.length) : depthTys (ts.take (k + 1)) = max (depthTys (ts.take k)) (depthTy ts[k]) := by
  rw [List.take_succ_eq_append_getElem h, depthTys_append, depthTys, depthTys]
  omega
mutual
theorem size_le_sz : ∀ (t : Ty), sizeTy t ≤ szTy t + 1
  | .mk _ ls ts => by
    rw [sizeTy, szTy]
    have := sizes_le_szs ts
    omega
theorem sizes_le_szs : ∀ (ts : List Ty), sizeTys ts ≤ szTys ts
  | [] => Nat.le_refl _
  | t :: r => by
    rw [sizeTys, szTys]
    have := size_le_sz t
    have := sizes_le_szs r
    omega
end
mutual
theorem depth_le_size : ∀ (t : Ty), depthTy t ≤ sizeTy t
  | .mk _ _ ts => by
    rw [depthTy, sizeTy]
    have := depths_le_sizes ts
    omega
theorem depths_le_sizes : ∀ (ts : List Ty), depthTys ts ≤ sizeTys ts
  | [] => Nat.le_refl _
  | t :: r => by
    rw [depthTys, sizeTys]
    have := depth_le_size t
    have := depths_le_sizes r
    omega
end

/-- A tree is boxed: what the box holds, and what its parts are. -/
theorem boxTy {w : World} {t : Ty} {v : Value} (hv : TyAt w w.heap.size v t) : ∃ L lc A ac, v = .agg #[.int .i64 t.kind, .slice L t.labels.length lc, .slice A t.args.length ac] ∧
    t.labels.length ≤ maxLen ∧ (∀ i, (h : i < t.labels.length) → t.labels[i].size ≤ maxLen) ∧ StrsAt w w.heap.size L t.labels ∧ TysAt w w.heap.size A t.args := hv.open

def SizeOne (f : Nat) (t : Ty) : Prop := ∀ (v : Value) (w : World), TyAt w w.heap.size v t → sizeTy t ≤ 2000000 → Calls Tryz.prog f #[v] w (IntBelow (sizeTy t) w)

end Go.Proofs.YthdfidhijmcbdaaGreatDoor

namespace Go.Proofs.YthdfidhijmcbdaaGreatDoor
open Go.RowKit

theorem l1Max_any (a b : Int) (w : World) : Calls Tryz.prog 82 #[.int .i64 a, .int .i64 b] w fun e w' => e = .returned (.int .i64 (max a b)) ∧ w = w' := by
  by_cases h : b < a
  · have e : max a b = a := by omega
    rw [e]
    clear e
    go_enter Tryz.func82, Tryz.ntmps82
    go_wp2
    go_ret
    exact ⟨rfl, rfl⟩
  · have e : max a b = b := by omega
    rw [e]
    clear e
    go_enter Tryz.func82, Tryz.ntmps82
    go_wp2
    go_ret
    exact ⟨rfl, rfl⟩

def DepthOne (f : Nat) (t : Ty) : Prop := ∀ (v : Value) (w : World), TyAt w w.heap.size v t → sizeTy t ≤ 2000000 → Calls Tryz.prog f #[v] w (IntBelow (depthTy t) w)

set_option maxHeartbeats 1000000 in
theorem specDepthOf_of (k0 : Int) (ls : List ByteArray) (ts : List Ty) (hall : ∀ i, (h : i < ts.length) → DepthOne 73 ts[i]) : DepthOne 73 (.mk k0 ls ts) := by
  intro v w hv hsz
  have hse := Lib.hid (depthTy_eq (.mk k0 ls ts))
  have hse2 : sizeTys ts ≤ 2000000 := by have := sizeTy_eq (.mk k0 ls ts); simp only [Ty.args] at this; omega
  obtain ⟨L, lc, A, ac, rfl, _, _, _, ha⟩ := hv.open
  simp only [Ty.kind, Ty.labels, Ty.args] at *
  have hm := ha.1
  unfold maxLen at hm
  have HALL := Lib.hid hall
  clear hall hv
  obtain ⟨hb0, p0, hs0⟩ := boxes1 w 27 #[.int .i64 k0, .slice L ls.length lc, .slice A ts.length ac]
  have ha0 := ha.up hb0
  have HZ := Lib.hid hs0
  clear ha hs0
  go_enter Tryz.func73, Tryz.ntmps73
  go_wp2
  generalize w.alloc (.cells #[.int .i64 k0, .slice L ls.length lc, .slice A ts.length ac] 27) = w0 at *
  have hpl := p0.lt
  go_loopw [3, 4] (fun n i wr => ∃ k d : Nat, k ≤ ts.length ∧ i = .int .i64 k ∧ n = .int .i64 (d : Int) ∧ Hid (d = depthTys (ts.take k)) ∧ d ≤ 2000000 ∧ Below w0.heap.size w0 wr) (fun _ i _ => ts.length - (intOf i).toNat)
  case atStart => exact ⟨0, 0, Nat.zero_le _, rfl, rfl, Lib.hid (by simp [depthTys]), by omega, Below.refl _ _⟩
  case round =>
    obtain ⟨k, d, hk, rfl, rfl, hd, hdl, hb⟩ := hrel
    have p1 := p0.below hb hpl
    have c2 : wr.cell? ⟨w.heap.size, 2, none⟩ = some (.slice A ts.length ac) := p1.cell 2
    by_cases hlt : k < ts.length
    · obtain ⟨b, off, L1, lc1, A1, ac1, rfl, hbl, q0, q1, q2, _, _, _, _, ht⟩ := (ha0.below hb).elem k hlt
      have hst := Lib.hid (depthTys_take ts k hlt)
      have hle := sizeTys_le ts (k + 1)
      have hst2 := Lib.hid (sizeTys_take ts k hlt)
      have hb3 : sizeTy ts[k] ≤ 2000000 := by have := hst2.out; omega
      have hb4 := depth_le_size ts[k]
      have HT := Lib.hid (HALL.out k hlt _ wr (ht.more hb.size) hb3)
      clear ht p1
      go_wp2_with fail
      refine HT.out.mono ?_
      rintro e w1 ⟨rfl, hb1⟩
      go_wp2_with fail
      refine (l1Max_any (d : Int) (depthTy ts[k] : Int) w1).mono ?_
      rintro e w2 ⟨rfl, rfl⟩
      rw [show max (d : Int) (depthTy ts[k] : Int) = ((max d (depthTy ts[k]) : Nat) : Int) by omega]
      go_wp2
      go_roundw
      case rel => exact ⟨k + 1, max d (depthTy ts[k]), by omega, by go_num, rfl, Lib.hid (by rw [hst.out, hd.out]), by omega, hb.trans (hb1.mono hb.size)⟩
      case measure => simp [intOf]; omega
    · have hke : k = ts.length := by omega
      subst hke
      rw [List.take_length] at hd
      go_wp2
      go_ret
      exact ⟨by rw [hse.out, ← hd.out]; rfl, hb0.trans (hb.mono hb0.size)⟩

theorem specDepthOf_any (t : Ty) : DepthOne 73 t := by
  induction t using Ty.ind with
  | h k ls ts ih => exact specDepthOf_of k ls ts ih

def LeftOne (f : Nat) (t : Ty) : Prop := ∀ (v : Value) (left : Int) (w : World), TyAt w w.heap.size v t → 0 ≤ left → left ≤ 1000000 → Calls Tryz.prog f #[v, .int .i64 left] w (IntBelow (leftOf left (sizeTy t)) w)

theorem leftOf_step (left : Int) (a b : Nat) (h : 0 ≤ leftOf left a) : leftOf (leftOf left a) b = leftOf left (a + b) := by
  unfold leftOf at *
  by_cases h1 : left - (a : Int) < 0
  · rw [if_pos h1] at h
    omega
  · rw [if_neg h1] at h ⊢
    by_cases h2 : left - (a : Int) - (b : Int) < 0
    · rw [if_pos h2, if_pos (by omega)]
    · rw [if_neg h2, if_neg (by omega)]
      omega
theorem leftOf_neg (left : Int) (a b : Nat) (h : leftOf left a = -1) (hab : a ≤ b) : leftOf left b = -1 := by
  unfold leftOf at *
  by_cases h1 : left - (a : Int) < 0
  · rw [if_pos (by omega)]
  · rw [if_neg h1] at h
    omega
theorem leftOf_le (left : Int) (a : Nat) (h : 0 ≤ left) : leftOf left a ≤ left := by
  unfold leftOf
  split <;> omega

set_option maxHeartbeats 1000000 in
theorem specLeft_of (k0 : Int) (ls : List ByteArray) (ts : List Ty) (hall : ∀ i, (h : i < ts.length) → LeftOne 72 ts[i]) : LeftOne 72 (.mk k0 ls ts) := by
  intro v left w hv h0 h1
  have hse := Lib.hid (sizeTy_eq (.mk k0 ls ts))
  obtain ⟨L, lc, A, ac, rfl, _, _, _, ha⟩ := hv.open
  simp only [Ty.kind, Ty.labels, Ty.args] at *
  have hm := ha.1
  unfold maxLen at hm
  have HALL := Lib.hid hall
  clear hall hv
  obtain ⟨hb0, p0, hs0⟩ := boxes1 w 27 #[.int .i64 k0, .slice L ls.length lc, .slice A ts.length ac]
  have ha0 := ha.up hb0
  have HZ := Lib.hid hs0
  clear ha hs0
  go_enter Tryz.func72, Tryz.ntmps72
  go_wp2
  generalize w.alloc (.cells #[.int .i64 k0, .slice L ls.length lc, .slice A ts.length ac] 27) = w0 at *
  have hpl := p0.lt
  go_loopw [1, 5] (fun n i wr => ∃ (k : Nat) (x : Int), k ≤ ts.length ∧ i = .int .i64 k ∧ n = .int .i64 x ∧ Hid (x = leftOf left (1 + sizeTys (ts.take k))) ∧ x ≤ 1000000 ∧ -1 ≤ x ∧ Below w0.heap.size w0 wr) (fun _ i _ => ts.length - (intOf i).toNat)
  case atStart => exact ⟨0, left - 1, Nat.zero_le _, rfl, rfl, Lib.hid (by simp only [List.take_zero, sizeTys, leftOf]; split <;> omega), by omega, by omega, Below.refl _ _⟩
  case round =>
    obtain ⟨k, x, hk, rfl, rfl, hx, hxl, hxm, hb⟩ := hrel
    have p1 := p0.below hb hpl
    have c2 : wr.cell? ⟨w.heap.size, 2, none⟩ = some (.slice A ts.length ac) := p1.cell 2
    by_cases hlt : k < ts.length
    · by_cases hx0 : 0 ≤ x
      · obtain ⟨b, off, L1, lc1, A1, ac1, rfl, hbl, q0, q1, q2, _, _, _, _, ht⟩ := (ha0.below hb).elem k hlt
        have hst2 := Lib.hid (sizeTys_take ts k hlt)
        have hdx : decide ((0 : Int) ≤ x) = true := by simp; omega
        have hlk : decide ((k : Int) < (ts.length : Int)) = true := by simp; omega
        have HT := Lib.hid (HALL.out k hlt _ x wr (ht.more hb.size) hx0 hxl)
        have hle := leftOf_le x (sizeTy ts[k]) hx0
        have hcs := leftOf_cases x (sizeTy ts[k])
        have hnx : Hid (leftOf x (sizeTy ts[k]) = leftOf left (1 + sizeTys (ts.take (k + 1)))) := Lib.hid (by
          have hxe := hx.out
          rw [hst2.out, hxe, leftOf_step _ _ _ (by rw [← hxe]; exact hx0), Nat.add_assoc])
        clear ht p1
        go_wp2_with fail
        refine HT.out.mono ?_
        rintro e w1 ⟨rfl, hb1⟩
        generalize leftOf x (sizeTy ts[k]) = y at *
        go_wp2
        go_roundw
        case rel => exact ⟨k + 1, y, by omega, by go_num, rfl, hnx, by omega, by omega, hb.trans (hb1.mono hb.size)⟩
        case measure => simp [intOf]; omega
      · have hxe : x = -1 := by omega
        have hr := Lib.hid (show leftOf left (sizeTy (.mk k0 ls ts)) = -1 by
          rw [hse.out]
          have := hx.out
          exact leftOf_neg _ _ _ (by rw [← this]; exact hxe) (by have := sizeTys_le ts k; omega))
        subst hxe
        clear hx0
        go_wp2
        go_ret
        exact ⟨by rw [hr.out]; rfl, hb0.trans (hb.mono hb0.size)⟩
    · have hke : k = ts.length := by omega
      subst hke
      rw [List.take_length] at hx
      go_wp2
      go_ret
      exact ⟨by rw [hse.out, ← hx.out]; rfl, hb0.trans (hb.mono hb0.size)⟩

theorem specLeft_any (t : Ty) : LeftOne 72 t := by
  induction t using Ty.ind with
  | h k ls ts ih => exact specLeft_of k ls ts ih

end Go.Proofs.YthdfidhijmcbdaaGreatDoor
