/- spec.SizeOfValue, spec.l5Left. -/
import Derived.Test.YtlmbnefoobameaaDoorSzVa
import Derived.Test.YtlmbnefoobameaaDoorEqVa
import Derived.Test.YtlmbnefoobameaaDoorSpecTy2
namespace Go.Proofs.YtlmbnefoobameaaDoor
open Go.RowKit

mutual
/-- The number of nodes. -/
def sizeVa : Va → Nat | .mk _ _ _ _ ts => 1 + sizeVas ts
def sizeVas : List Va → Nat | [] => 0 | t :: r => sizeVa t + sizeVas r
end
theorem sizeVa_eq (t : Va) : sizeVa t = 1 + sizeVas t.args := by cases t; rw [sizeVa]; rfl
theorem sizeVas_append : ∀ (a b : List Va), sizeVas (a ++ b) = sizeVas a + sizeVas b
  | [], b => by simp [sizeVas]
  | t :: a, b => by
    rw [List.cons_append, sizeVas, sizeVas, sizeVas_append a b]
    omega
theorem sizeVas_take (ts : List Va) (k : Nat) (h : k < ts.length) : sizeVas (ts.take (k + 1)) = sizeVas (ts.take k) + sizeVa ts[k] := by
  rw [List.take_succ_eq_append_getElem h, sizeVas_append, sizeVas, sizeVas]
  omega
theorem sizeVas_le (ts : List Va) (k : Nat) : sizeVas (ts.take k) ≤ sizeVas ts := by
  have h := sizeVas_append (ts.take k) (ts.drop k)
  rw [List.take_append_drop] at h
  omega
mutual
theorem size_le_szV : ∀ (t : Va), sizeVa t ≤ szVa t + 1
  | .mk _ _ _ ls ts => by
    rw [sizeVa, szVa]
    have := sizes_le_szVs ts
    omega
theorem sizes_le_szVs : ∀ (ts : List Va), sizeVas ts ≤ szVas ts
  | [] => Nat.le_refl _
  | t :: r => by
    rw [sizeVas, szVas]
    have := size_le_szV t
    have := sizes_le_szVs r
    omega
end
mutual
/-- The depth. -/
def depthVa : Va → Nat | .mk _ _ _ _ ts => depthVas ts + 1
def depthVas : List Va → Nat | [] => 0 | t :: r => max (depthVa t) (depthVas r)
end
theorem depthVa_eq (t : Va) : depthVa t = depthVas t.args + 1 := by cases t; rw [depthVa]; rfl
theorem depthVas_append : ∀ (a b : List Va), depthVas (a ++ b) = max (depthVas a) (depthVas b)
  | [], b => by simp [depthVas]
  | t :: a, b => by
    rw [List.cons_append, depthVas, depthVas, depthVas_append a b]
    omega
theorem depthVas_take (ts : List Va) (k : Nat) (h : k < ts.length) : depthVas (ts.take (k + 1)) = max (depthVas (ts.take k)) (depthVa ts[k]) := by
  rw [List.take_succ_eq_append_getElem h, depthVas_append, depthVas, depthVas]
  omega
mutual
theorem depth_le_sizeV : ∀ (t : Va), depthVa t ≤ sizeVa t
  | .mk _ _ _ ls ts => by
    rw [depthVa, sizeVa]
    have := depths_le_sizesV ts
    omega
theorem depths_le_sizesV : ∀ (ts : List Va), depthVas ts ≤ sizeVas ts
  | [] => Nat.le_refl _
  | t :: r => by
    rw [depthVas, sizeVas]
    have := depth_le_sizeV t
    have := depths_le_sizesV r
    omega
end
def SizeVOne (f : Nat) (t : Va) : Prop := ∀ (v : Value) (w : World), VaAt w w.heap.size v t → sizeVa t ≤ 2000000 → Calls Tryd.prog f #[v] w (IntBelow (sizeVa t) w)

set_option maxHeartbeats 1000000 in
theorem specSizeV_of (k0 n0 : Int) (nm : ByteArray) (ls : List ByteArray) (ts : List Va) (hall : ∀ i, (h : i < ts.length) → SizeVOne 17 ts[i]) : SizeVOne 17 (.mk k0 n0 nm ls ts) := by
  intro v w hv hsz
  have hse := Lib.hid (sizeVa_eq (.mk k0 n0 nm ls ts))
  have hse2 : sizeVas ts ≤ 2000000 := by have := hse.out; simp only [Va.args] at this; omega
  obtain ⟨L, lc, A, ac, rfl, _, _, _, _, ha⟩ := hv.open
  simp only [Va.kind, Va.num, Va.name, Va.labels, Va.args] at *
  have hm := ha.1
  unfold maxLen at hm
  have HALL := Lib.hid hall
  clear hall hv
  obtain ⟨hb0, p0, hs0⟩ := boxes1 w 27 #[.int .i64 k0, .int .i64 n0, .string nm, .slice L ls.length lc, .slice A ts.length ac]
  have ha0 := ha.up hb0
  have HZ := Lib.hid hs0
  clear ha hs0
  go_enter Tryd.func17, Tryd.ntmps17
  go_wp2
  generalize w.alloc (.cells #[.int .i64 k0, .int .i64 n0, .string nm, .slice L ls.length lc, .slice A ts.length ac] 27) = w0 at *
  have hpl := p0.lt
  go_loopw [3, 4] (fun n i wr => ∃ k : Nat, k ≤ ts.length ∧ i = .int .i64 k ∧ n = .int .i64 ((1 + sizeVas (ts.take k) : Nat) : Int) ∧ Below w0.heap.size w0 wr) (fun _ i _ => ts.length - (intOf i).toNat)
  case atStart => exact ⟨0, Nat.zero_le _, rfl, by simp [sizeVas], Below.refl _ _⟩
  case round =>
    obtain ⟨k, hk, rfl, rfl, hb⟩ := hrel
    have p1 := p0.below hb hpl
    have c2 : wr.cell? ⟨w.heap.size, 4, none⟩ = some (.slice A ts.length ac) := p1.cell 4
    by_cases hlt : k < ts.length
    · obtain ⟨b, off, L1, lc1, A1, ac1, rfl, hbl, q0, q1, q2, q3, q4, ht⟩ := (ha0.below hb).elem k hlt
      have hst := Lib.hid (sizeVas_take ts k hlt)
      have hle := sizeVas_le ts (k + 1)
      have hb3 : sizeVas (ts.take k) + sizeVa ts[k] ≤ 2000000 := by have := hst.out; omega
      have HT := Lib.hid (HALL.out k hlt _ wr (ht.more hb.size) (by omega))
      clear ht p1
      go_wp2_with fail
      refine HT.out.mono ?_
      rintro e w1 ⟨rfl, hb1⟩
      go_wp2
      go_roundw
      case rel => exact ⟨k + 1, by omega, by go_num, by rw [hst.out]; go_num, hb.trans (hb1.mono hb.size)⟩
      case measure => simp [intOf]; omega
    · have hke : k = ts.length := by omega
      subst hke
      go_wp2
      go_ret
      exact ⟨by rw [hse.out, List.take_length]; rfl, hb0.trans (hb.mono hb0.size)⟩

theorem specSizeV_any (t : Va) : SizeVOne 17 t := by
  induction t using Va.ind with
  | h k n nm ls ts ih => exact specSizeV_of k n nm ls ts ih

def LeftVOne (f : Nat) (t : Va) : Prop := ∀ (v : Value) (left : Int) (w : World), VaAt w w.heap.size v t → 0 ≤ left → left ≤ 1000000 → Calls Tryd.prog f #[v, .int .i64 left] w (IntBelow (leftOf left (sizeVa t)) w)

set_option maxHeartbeats 1000000 in
theorem specLeftV_of (k0 n0 : Int) (nm : ByteArray) (ls : List ByteArray) (ts : List Va) (hall : ∀ i, (h : i < ts.length) → LeftVOne 44 ts[i]) : LeftVOne 44 (.mk k0 n0 nm ls ts) := by
  intro v left w hv h0 h1
  have hse := Lib.hid (sizeVa_eq (.mk k0 n0 nm ls ts))
  obtain ⟨L, lc, A, ac, rfl, _, _, _, _, ha⟩ := hv.open
  simp only [Va.kind, Va.num, Va.name, Va.labels, Va.args] at *
  have hm := ha.1
  unfold maxLen at hm
  have HALL := Lib.hid hall
  clear hall hv
  obtain ⟨hb0, p0, hs0⟩ := boxes1 w 27 #[.int .i64 k0, .int .i64 n0, .string nm, .slice L ls.length lc, .slice A ts.length ac]
  have ha0 := ha.up hb0
  have HZ := Lib.hid hs0
  clear ha hs0
  go_enter Tryd.func44, Tryd.ntmps44
  go_wp2
  generalize w.alloc (.cells #[.int .i64 k0, .int .i64 n0, .string nm, .slice L ls.length lc, .slice A ts.length ac] 27) = w0 at *
  have hpl := p0.lt
  go_loopw [1, 5] (fun n i wr => ∃ (k : Nat) (x : Int), k ≤ ts.length ∧ i = .int .i64 k ∧ n = .int .i64 x ∧ Hid (x = leftOf left (1 + sizeVas (ts.take k))) ∧ x ≤ 1000000 ∧ -1 ≤ x ∧ Below w0.heap.size w0 wr) (fun _ i _ => ts.length - (intOf i).toNat)
  case atStart => exact ⟨0, left - 1, Nat.zero_le _, rfl, rfl, Lib.hid (by simp only [List.take_zero, sizeVas, leftOf]; split <;> omega), by omega, by omega, Below.refl _ _⟩
  case round =>
    obtain ⟨k, x, hk, rfl, rfl, hx, hxl, hxm, hb⟩ := hrel
    have p1 := p0.below hb hpl
    have c2 : wr.cell? ⟨w.heap.size, 4, none⟩ = some (.slice A ts.length ac) := p1.cell 4
    by_cases hlt : k < ts.length
    · by_cases hx0 : 0 ≤ x
      · obtain ⟨b, off, L1, lc1, A1, ac1, rfl, hbl, q0, q1, q2, q3, q4, ht⟩ := (ha0.below hb).elem k hlt
        have hst2 := Lib.hid (sizeVas_take ts k hlt)
        have hdx : decide ((0 : Int) ≤ x) = true := by simp; omega
        have hlk : decide ((k : Int) < (ts.length : Int)) = true := by simp; omega
        have HT := Lib.hid (HALL.out k hlt _ x wr (ht.more hb.size) hx0 hxl)
        have hle := leftOf_le x (sizeVa ts[k]) hx0
        have hcs := leftOf_cases x (sizeVa ts[k])
        have hnx : Hid (leftOf x (sizeVa ts[k]) = leftOf left (1 + sizeVas (ts.take (k + 1)))) := Lib.hid (by
          have hxe := hx.out
          rw [hst2.out, hxe, leftOf_step _ _ _ (by rw [← hxe]; exact hx0), Nat.add_assoc])
        clear ht p1
        go_wp2_with fail
        refine HT.out.mono ?_
        rintro e w1 ⟨rfl, hb1⟩
        generalize leftOf x (sizeVa ts[k]) = y at *
        go_wp2
        go_roundw
        case rel => exact ⟨k + 1, y, by omega, by go_num, rfl, hnx, by omega, by omega, hb.trans (hb1.mono hb.size)⟩
        case measure => simp [intOf]; omega
      · have hxe : x = -1 := by omega
        have hr := Lib.hid (show leftOf left (sizeVa (.mk k0 n0 nm ls ts)) = -1 by
          rw [hse.out]
          have := hx.out
          exact leftOf_neg _ _ _ (by rw [← this]; exact hxe) (by have := sizeVas_le ts k; omega))
        subst hxe
        clear hx0
        go_wp2
        go_ret
        exact ⟨by rw [hr.out]; rfl, hb0.trans (hb.mono hb0.size)⟩
    · have hke : k = ts.length := by omega
      subst hke
      rw [List.take_length] at hx
      go_wp2
      go_ret
      exact ⟨by rw [hse.out, ← hx.out]; rfl, hb0.trans (hb.mono hb0.size)⟩

theorem specLeftV_any (t : Va) : LeftVOne 44 t := by
  induction t using Va.ind with
  | h k n nm ls ts ih => exact specLeftV_of k n nm ls ts ih


end Go.Proofs.YtlmbnefoobameaaDoor
