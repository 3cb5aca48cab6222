/- Lemmas: SpecTy2, SpecVa, SpecNames, SpecTy5. -/
import Derived.Test.YtceclhndagoddaaGreatDoorLawFnValueText_6
import Derived.Test.YtceclhndagoddaaGreatDoorLawFnValueText_3
import Derived.Test.YtceclhndagoddaaGreatDoorProg
import Derived.Test.YtceclhndagoddaaGreatDoorLawFnValueText_1
import Derived.BigGuard
import Derived.WalkLawsBesides
import Derived.Test.YtceclhndagoddaaGreatDoorLawFnValueText_4
import Derived.Deep.RegionHeld3

section
namespace Go.Proofs.YtceclhndagoddaaGreatDoor
open Go.RowKit

mutual
/-- The number of nodes. -/
def sizeTy : Ty → Nat | .mk _ _ ts => 1 + sizeTys ts
def sizeTys : List Ty → Nat | [] => 0 | t :: r => sizeTy t + sizeTys r
end
mutual
/-- The depth. -/
def depthTy : Ty → Nat | .mk _ _ ts => depthTys ts + 1
def depthTys : List Ty → Nat | [] => 0 | t :: r => max (depthTy t) (depthTys r)
end
theorem sizeTy_eq (t : Ty) : sizeTy t = 1 + sizeTys t.args := by cases t; rw [sizeTy]; rfl
theorem depthTy_eq (t : Ty) : depthTy t = depthTys t.args + 1 := by cases t; rw [depthTy]; rfl
theorem sizeTys_append : ∀ (a b : List Ty), sizeTys (a ++ b) = sizeTys a + sizeTys b
  | [], b => by simp [sizeTys]
  | t :: a, b => by
    rw [List.cons_append, sizeTys, sizeTys, sizeTys_append a b]
    omega
theorem sizeTys_take (ts : List Ty) (k : Nat) (h : k < ts.length) : sizeTys (ts.take (k + 1)) = sizeTys (ts.take k) + sizeTy ts[k] := by
  rw [List.take_succ_eq_append_getElem h, sizeTys_append, sizeTys, sizeTys]
  omega
theorem sizeTys_le (ts : List Ty) (k : Nat) : sizeTys (ts.take k) ≤ sizeTys ts := by
  have h := sizeTys_append (ts.take k) (ts.drop k)
  rw [List.take_append_drop] at h
  omega
theorem depthTys_append : ∀ (a b : List Ty), depthTys (a ++ b) = max (depthTys a) (depthTys b)
  | [], b => by simp [depthTys]
  | t :: a, b => by
    rw [List.cons_append, depthTys, depthTys, depthTys_append a b]
    omega
theorem depthTys_take (ts : List Ty) (k : Nat) (h : k < ts.length) : depthTys (ts.take (k + 1)) = max (depthTys (ts.take k)) (depthTy ts[k]) := by
  rw [List.take_succ_eq_append_getElem h, depthTys_append, depthTys, depthTys]
  omega
mutual
theorem size_le_sz : ∀ (t : Ty), sizeTy t ≤ szTy t + 1
  | .mk _ ls ts => by
    rw [sizeTy, szTy]
    have := sizes_le_szs ts
    omega
theorem sizes_le_szs : ∀ (ts : List Ty), sizeTys ts ≤ szTys ts
  | [] => Nat.le_refl _
  | t :: r => by
    rw [sizeTys, szTys]
    have := size_le_sz t
    have := sizes_le_szs r
    omega
end
mutual
theorem depth_le_size : ∀ (t : Ty), depthTy t ≤ sizeTy t
  | .mk _ _ ts => by
    rw [depthTy, sizeTy]
    have := depths_le_sizes ts
    omega
theorem depths_le_sizes : ∀ (ts : List Ty), depthTys ts ≤ sizeTys ts
  | [] => Nat.le_refl _
  | t :: r => by
    rw [depthTys, sizeTys]
    have := depth_le_size t
    have := depths_le_sizes r
    omega
end

/-- A tree is boxed: what the box holds, and what its parts are. -/
theorem boxTy {w : World} {t : Ty} {v : Value} (hv : TyAt w w.heap.size v t) : ∃ L lc A ac, v = .agg #[.int .i64 t.kind, .slice L t.labels.length lc, .slice A t.args.length ac] ∧
    t.labels.length ≤ maxLen ∧ (∀ i, (h : i < t.labels.length) → t.labels[i].size ≤ maxLen) ∧ StrsAt w w.heap.size L t.labels ∧ TysAt w w.heap.size A t.args := hv.open

def SizeOne (f : Nat) (t : Ty) : Prop := ∀ (v : Value) (w : World), TyAt w w.heap.size v t → sizeTy t ≤ 2000000 → Calls Tryz.prog f #[v] w (IntBelow (sizeTy t) w)

end Go.Proofs.YtceclhndagoddaaGreatDoor

namespace Go.Proofs.YtceclhndagoddaaGreatDoor
open Go.RowKit

def DepthOne (f : Nat) (t : Ty) : Prop := ∀ (v : Value) (w : World), TyAt w w.heap.size v t → sizeTy t ≤ 2000000 → Calls Tryz.prog f #[v] w (IntBelow (depthTy t) w)

def LeftOne (f : Nat) (t : Ty) : Prop := ∀ (v : Value) (left : Int) (w : World), TyAt w w.heap.size v t → 0 ≤ left → left ≤ 1000000 → Calls Tryz.prog f #[v, .int .i64 left] w (IntBelow (leftOf left (sizeTy t)) w)

theorem leftOf_step (left : Int) (a b : Nat) (h : 0 ≤ leftOf left a) : leftOf (leftOf left a) b = leftOf left (a + b) := by
  unfold leftOf at *
  by_cases h1 : left - (a : Int) < 0
  · rw [if_pos h1] at h
    omega
  · rw [if_neg h1] at h ⊢
    by_cases h2 : left - (a : Int) - (b : Int) < 0
    · rw [if_pos h2, if_pos (by omega)]
    · rw [if_neg h2, if_neg (by omega)]
      omega
theorem leftOf_neg (left : Int) (a b : Nat) (h : leftOf left a = -1) (hab : a ≤ b) : leftOf left b = -1 := by
  unfold leftOf at *
  by_cases h1 : left - (a : Int) < 0
  · rw [if_pos (by omega)]
  · rw [if_neg h1] at h
    omega
theorem leftOf_le (left : Int) (a : Nat) (h : 0 ≤ left) : leftOf left a ≤ left := by
  unfold leftOf
  split <;> omega

end Go.Proofs.YtceclhndagoddaaGreatDoor
end

section
namespace Go.Proofs.YtceclhndagoddaaGreatDoor
open Go.RowKit

mutual
/-- The number of nodes. -/
def sizeVa : Va → Nat | .mk _ _ _ _ ts => 1 + sizeVas ts
def sizeVas : List Va → Nat | [] => 0 | t :: r => sizeVa t + sizeVas r
end
theorem sizeVa_eq (t : Va) : sizeVa t = 1 + sizeVas t.args := by cases t; rw [sizeVa]; rfl
theorem sizeVas_append : ∀ (a b : List Va), sizeVas (a ++ b) = sizeVas a + sizeVas b
  | [], b => by simp [sizeVas]
  | t :: a, b => by
    rw [List.cons_append, sizeVas, sizeVas, sizeVas_append a b]
    omega
theorem sizeVas_take (ts : List Va) (k : Nat) (h : k < ts.length) : sizeVas (ts.take (k + 1)) = sizeVas (ts.take k) + sizeVa ts[k] := by
  rw [List.take_succ_eq_append_getElem h, sizeVas_append, sizeVas, sizeVas]
  omega
theorem sizeVas_le (ts : List Va) (k : Nat) : sizeVas (ts.take k) ≤ sizeVas ts := by
  have h := sizeVas_append (ts.take k) (ts.drop k)
  rw [List.take_append_drop] at h
  omega
mutual
theorem size_le_szV : ∀ (t : Va), sizeVa t ≤ szVa t + 1
  | .mk _ _ _ ls ts => by
    rw [sizeVa, szVa]
    have := sizes_le_szVs ts
    omega
theorem sizes_le_szVs : ∀ (ts : List Va), sizeVas ts ≤ szVas ts
  | [] => Nat.le_refl _
  | t :: r => by
    rw [sizeVas, szVas]
    have := size_le_szV t
    have := sizes_le_szVs r
    omega
end
mutual
/-- The depth. -/
def depthVa : Va → Nat | .mk _ _ _ _ ts => depthVas ts + 1
def depthVas : List Va → Nat | [] => 0 | t :: r => max (depthVa t) (depthVas r)
end
theorem depthVa_eq (t : Va) : depthVa t = depthVas t.args + 1 := by cases t; rw [depthVa]; rfl
theorem depthVas_append : ∀ (a b : List Va), depthVas (a ++ b) = max (depthVas a) (depthVas b)
  | [], b => by simp [depthVas]
  | t :: a, b => by
    rw [List.cons_append, depthVas, depthVas, depthVas_append a b]
    omega
theorem depthVas_take (ts : List Va) (k : Nat) (h : k < ts.length) : depthVas (ts.take (k + 1)) = max (depthVas (ts.take k)) (depthVa ts[k]) := by
  rw [List.take_succ_eq_append_getElem h, depthVas_append, depthVas, depthVas]
  omega
mutual
theorem depth_le_sizeV : ∀ (t : Va), depthVa t ≤ sizeVa t
  | .mk _ _ _ ls ts => by
    rw [depthVa, sizeVa]
    have := depths_le_sizesV ts
    omega
theorem depths_le_sizesV : ∀ (ts : List Va), depthVas ts ≤ sizeVas ts
  | [] => Nat.le_refl _
  | t :: r => by
    rw [depthVas, sizeVas]
    have := depth_le_sizeV t
    have := depths_le_sizesV r
    omega
end
def SizeVOne (f : Nat) (t : Va) : Prop := ∀ (v : Value) (w : World), VaAt w w.heap.size v t → sizeVa t ≤ 2000000 → Calls Tryz.prog f #[v] w (IntBelow (sizeVa t) w)

def LeftVOne (f : Nat) (t : Va) : Prop := ∀ (v : Value) (left : Int) (w : World), VaAt w w.heap.size v t → 0 ≤ left → left ≤ 1000000 → Calls Tryz.prog f #[v, .int .i64 left] w (IntBelow (leftOf left (sizeVa t)) w)

set_option maxHeartbeats 1000000 in
theorem specLeftV_of (k0 n0 : Int) (nm : ByteArray) (ls : List ByteArray) (ts : List Va) (hall : ∀ i, (h : i < ts.length) → LeftVOne 20 ts[i]) : LeftVOne 20 (.mk k0 n0 nm ls ts) := by
  intro v left w hv h0 h1
  have hse := Lib.hid (sizeVa_eq (.mk k0 n0 nm ls ts))
  obtain ⟨L, lc, A, ac, rfl, _, _, _, _, ha⟩ := hv.open
  simp only [Va.kind, Va.num, Va.name, Va.labels, Va.args] at *
  have hm := ha.1
  unfold maxLen at hm
  have HALL := Lib.hid hall
  clear hall hv
  obtain ⟨hb0, p0, hs0⟩ := boxes1 w 27 #[.int .i64 k0, .int .i64 n0, .string nm, .slice L ls.length lc, .slice A ts.length ac]
  have ha0 := ha.up hb0
  have HZ := Lib.hid hs0
  clear ha hs0
  go_enter Tryz.func20, Tryz.ntmps20
  go_wp2
  generalize w.alloc (.cells #[.int .i64 k0, .int .i64 n0, .string nm, .slice L ls.length lc, .slice A ts.length ac] 27) = w0 at *
  have hpl := p0.lt
  go_loopw [1, 5] (fun n i wr => ∃ (k : Nat) (x : Int), k ≤ ts.length ∧ i = .int .i64 k ∧ n = .int .i64 x ∧ Hid (x = leftOf left (1 + sizeVas (ts.take k))) ∧ x ≤ 1000000 ∧ -1 ≤ x ∧ Below w0.heap.size w0 wr) (fun _ i _ => ts.length - (intOf i).toNat)
  case atStart => exact ⟨0, left - 1, Nat.zero_le _, rfl, rfl, Lib.hid (by simp only [List.take_zero, sizeVas, leftOf]; split <;> omega), by omega, by omega, Below.refl _ _⟩
  case round =>
    obtain ⟨k, x, hk, rfl, rfl, hx, hxl, hxm, hb⟩ := hrel
    have p1 := p0.below hb hpl
    have c2 : wr.cell? ⟨w.heap.size, 4, none⟩ = some (.slice A ts.length ac) := p1.cell 4
    by_cases hlt : k < ts.length
    · by_cases hx0 : 0 ≤ x
      · obtain ⟨b, off, L1, lc1, A1, ac1, rfl, hbl, q0, q1, q2, q3, q4, ht⟩ := (ha0.below hb).elem k hlt
        have hst2 := Lib.hid (sizeVas_take ts k hlt)
        have hdx : decide ((0 : Int) ≤ x) = true := by simp; omega
        have hlk : decide ((k : Int) < (ts.length : Int)) = true := by simp; omega
        have HT := Lib.hid (HALL.out k hlt _ x wr (ht.more hb.size) hx0 hxl)
        have hle := leftOf_le x (sizeVa ts[k]) hx0
        have hcs := leftOf_cases x (sizeVa ts[k])
        have hnx : Hid (leftOf x (sizeVa ts[k]) = leftOf left (1 + sizeVas (ts.take (k + 1)))) := Lib.hid (by
          have hxe := hx.out
          rw [hst2.out, hxe, leftOf_step _ _ _ (by rw [← hxe]; exact hx0), Nat.add_assoc])
        clear ht p1
        go_wp2_with fail
        refine HT.out.mono ?_
        rintro e w1 ⟨rfl, hb1⟩
        generalize leftOf x (sizeVa ts[k]) = y at *
        go_wp2
        go_roundw
        case rel => exact ⟨k + 1, y, by omega, by go_num, rfl, hnx, by omega, by omega, hb.trans (hb1.mono hb.size)⟩
        case measure => simp [intOf]; omega
      · have hxe : x = -1 := by omega
        have hr := Lib.hid (show leftOf left (sizeVa (.mk k0 n0 nm ls ts)) = -1 by
          rw [hse.out]
          have := hx.out
          exact leftOf_neg _ _ _ (by rw [← this]; exact hxe) (by have := sizeVas_le ts k; omega))
        subst hxe
        clear hx0
        go_wp2
        go_ret
        exact ⟨by rw [hr.out]; rfl, hb0.trans (hb.mono hb0.size)⟩
    · have hke : k = ts.length := by omega
      subst hke
      rw [List.take_length] at hx
      go_wp2
      go_ret
      exact ⟨by rw [hse.out, ← hx.out]; rfl, hb0.trans (hb.mono hb0.size)⟩

theorem specLeftV_any (t : Va) : LeftVOne 20 t := by
  induction t using Va.ind with
  | h k n nm ls ts ih => exact specLeftV_of k n nm ls ts ih


end Go.Proofs.YtceclhndagoddaaGreatDoor
end

section
namespace Go.Proofs.YtceclhndagoddaaGreatDoor
open Go.RowKit

/-- May the byte c stand at place k of a name? -/
def nameAt (k : Nat) (c : UInt8) : Bool := (decide (97 ≤ c.toNat) && decide (c.toNat ≤ 122)) || (decide (0 < k) && decide (48 ≤ c.toNat) && decide (c.toNat ≤ 57))
/-- Is it a name? -/
def isNameB (s : ByteArray) : Bool := (List.range s.size).all (fun k => nameAt k (s.data.getD k 0)) && decide (1 ≤ s.size) && decide (s.size ≤ 4)

theorem isNameB_no (s : ByteArray) (k : Nat) (h : k < s.size) (hn : nameAt k (s.data.getD k 0) = false) : isNameB s = false := by
  unfold isNameB
  have : (List.range s.size).all (fun k => nameAt k (s.data.getD k 0)) = false := by
    rw [List.all_eq_false]
    exact ⟨k, List.mem_range.2 h, by rw [hn]; simp⟩
  rw [this]
  rfl
theorem isNameB_all (s : ByteArray) (h : ∀ k, k < s.size → nameAt k (s.data.getD k 0) = true) : isNameB s = (decide (1 ≤ s.size) && decide (s.size ≤ 4)) := by
  unfold isNameB
  have : (List.range s.size).all (fun k => nameAt k (s.data.getD k 0)) = true := by
    rw [List.all_eq_true]
    exact fun k hk => h k (List.mem_range.1 hk)
  rw [this]
  rfl

set_option maxHeartbeats 1000000 in
theorem specIsName_any (s : ByteArray) (w : World) (hs : s.size ≤ maxLen) :
    Calls Tryz.prog 50 #[.string s] w fun e w' => e = .returned (.bool (isNameB s)) ∧ w = w' := by
  unfold maxLen at hs
  go_enter Tryz.func50, Tryz.ntmps50
  go_wp2
  go_loop [3] (fun i => ∃ k : Nat, k ≤ s.size ∧ i = .int .i64 k ∧ ∀ j, j < k → nameAt j (s.data.getD j 0) = true) (fun i => s.size - (intOf i).toNat)
  case atStart => exact ⟨0, Nat.zero_le _, rfl, fun j h => absurd h (by omega)⟩
  case round =>
    obtain ⟨k, hk, rfl, hall⟩ := hrel
    have HA := Lib.hid hall
    clear hall
    by_cases hlt : k < s.size
    · have hltI : (k : Int) < (s.size : Int) := by omega
      have hget := Lib.hid (show s.data.getD k 0 = s[k] by
        rw [Array.getD_eq_getD_getElem?, Array.getElem?_eq_getElem hlt]; rfl)
      by_cases h97 : 97 ≤ s[k].toNat
      · by_cases h122 : s[k].toNat ≤ 122
        · have i1 : (97 : Int) ≤ s[k].toNat := by omega
          have i2 : (s[k].toNat : Int) ≤ 122 := by omega
          go_wp2
          go_round
          case rel =>
            refine ⟨k + 1, by omega, by go_num, fun j hj => ?_⟩
            by_cases e : j = k
            · subst e
              rw [hget.out]
              simp [nameAt, h97, h122]
            · exact HA.out j (by omega)
          case measure => simp [intOf]; omega
        · have i1 : (97 : Int) ≤ s[k].toNat := by omega
          have i2 : ¬ (s[k].toNat : Int) ≤ 122 := by omega
          have i3 : ¬ (s[k].toNat : Int) < 48 := by omega
          have i4 : (57 : Int) < s[k].toNat := by omega
          have hno := Lib.hid (isNameB_no s k hlt (by rw [hget.out]; simp [nameAt, h122, show ¬ s[k].toNat ≤ 57 by omega]))
          go_wp2
          all_goals
            go_ret
            refine ⟨?_, rfl⟩
            rw [hno.out]
            rfl
      · by_cases hk0 : 0 < k
        · by_cases h48 : s[k].toNat < 48
          · have i1 : ¬ (97 : Int) ≤ s[k].toNat := by omega
            have i0 : ((k : Int) == 0) = false := by rw [beq_eq_false_iff_ne]; omega
            have i3 : (s[k].toNat : Int) < 48 := by omega
            have hno := Lib.hid (isNameB_no s k hlt (by rw [hget.out]; simp [nameAt, h97, show ¬ 48 ≤ s[k].toNat by omega]))
            go_wp2
            all_goals
              go_ret
              refine ⟨?_, rfl⟩
              rw [hno.out]
              rfl
          · by_cases h57 : s[k].toNat ≤ 57
            · have i1 : ¬ (97 : Int) ≤ s[k].toNat := by omega
              have i0 : ((k : Int) == 0) = false := by rw [beq_eq_false_iff_ne]; omega
              have i3 : ¬ (s[k].toNat : Int) < 48 := by omega
              have i4 : ¬ (57 : Int) < s[k].toNat := by omega
              go_wp2
              go_round
              case rel =>
                refine ⟨k + 1, by omega, by go_num, fun j hj => ?_⟩
                by_cases e : j = k
                · subst e
                  rw [hget.out]
                  simp [nameAt, hk0, h57, show 48 ≤ s[j].toNat by omega]
                · exact HA.out j (by omega)
              case measure => simp [intOf]; omega
            · have i1 : ¬ (97 : Int) ≤ s[k].toNat := by omega
              have i0 : ((k : Int) == 0) = false := by rw [beq_eq_false_iff_ne]; omega
              have i3 : ¬ (s[k].toNat : Int) < 48 := by omega
              have i4 : (57 : Int) < s[k].toNat := by omega
              have hno := Lib.hid (isNameB_no s k hlt (by rw [hget.out]; simp [nameAt, h97, h57]))
              go_wp2
              all_goals
                go_ret
                refine ⟨?_, rfl⟩
                rw [hno.out]
                rfl
        · have i1 : ¬ (97 : Int) ≤ s[k].toNat := by omega
          have i0 : ((k : Int) == 0) = true := by rw [beq_iff_eq]; omega
          have hno := Lib.hid (isNameB_no s k hlt (by rw [hget.out]; simp [nameAt, h97, hk0]))
          go_wp2
          all_goals
            go_ret
            refine ⟨?_, rfl⟩
            rw [hno.out]
            rfl
    · have hltI : ¬ (k : Int) < (s.size : Int) := by omega
      have hke : k = s.size := by omega
      have hB := Lib.hid (isNameB_all s (fun j hj => HA.out j (by omega)))
      clear hke
      by_cases h1 : 1 ≤ s.size
      · by_cases h4 : s.size ≤ 4
        · have i1 : (1 : Int) ≤ s.size := by omega
          have i4 : (s.size : Int) ≤ 4 := by omega
          go_wp2
          go_ret
          refine ⟨?_, rfl⟩
          rw [hB.out]
          simp [h1, h4]
        · have i1 : (1 : Int) ≤ s.size := by omega
          have i4 : ¬ (s.size : Int) ≤ 4 := by omega
          go_wp2
          go_ret
          refine ⟨?_, rfl⟩
          rw [hB.out]
          simp [h4]
      · have i1 : ¬ (1 : Int) ≤ s.size := by omega
        go_wp2
        go_ret
        refine ⟨?_, rfl⟩
        rw [hB.out]
        simp [h1]

end Go.Proofs.YtceclhndagoddaaGreatDoor

namespace Go.Proofs.YtceclhndagoddaaGreatDoor
open Go.RowKit

/-- The first place of s. -/
def idxOf (ss : List ByteArray) (s : ByteArray) : Int :=
  match (List.range ss.length).find? (fun k => (ss.getD k ⟨#[]⟩).data.toList == s.data.toList) with
  | some k => (k : Int)
  | none => -1
theorem idxOf_at (ss : List ByteArray) (s : ByteArray) (k : Nat) (h : k < ss.length) (he : ss[k].data.toList = s.data.toList) (hn : ∀ j, (hj : j < ss.length) → j < k → ss[j].data.toList ≠ s.data.toList) : idxOf ss s = k := by
  unfold idxOf
  have : (List.range ss.length).find? (fun k => (ss.getD k ⟨#[]⟩).data.toList == s.data.toList) = some k := by
    rw [List.find?_range_eq_some]
    refine ⟨?_, List.mem_range.2 h, fun j hj => ?_⟩
    · simp [h, he]
    · have hl : j < ss.length := by omega
      simp [hl]
      exact fun e => hn j hl hj (by rw [e])
  rw [this]
theorem idxOf_none (ss : List ByteArray) (s : ByteArray) (hn : ∀ j, (hj : j < ss.length) → ss[j].data.toList ≠ s.data.toList) : idxOf ss s = -1 := by
  unfold idxOf
  have : (List.range ss.length).find? (fun k => (ss.getD k ⟨#[]⟩).data.toList == s.data.toList) = none := by
    rw [List.find?_eq_none]
    intro j hj
    have hl := List.mem_range.1 hj
    simp [hl]
    exact fun e => hn j hl (by rw [e])
  rw [this]

/-- s before t, byte by byte. -/
def lessB (s t : ByteArray) : Bool := Op.bytesLess s.data.toList t.data.toList
/-- Each before the next. -/
def ascB (ss : List ByteArray) : Bool := (List.range (ss.length - 1)).all fun k => lessB (ss.getD k ⟨#[]⟩) (ss.getD (k + 1) ⟨#[]⟩)
theorem ascB_no (ss : List ByteArray) (k : Nat) (h1 : 1 ≤ k) (h : k < ss.length) (hn : lessB (ss[k - 1]'(by omega)) ss[k] = false) : ascB ss = false := by
  unfold ascB
  rw [List.all_eq_false]
  refine ⟨k - 1, List.mem_range.2 (by omega), ?_⟩
  have e : k - 1 + 1 = k := by omega
  rw [e]
  simp [h, show k - 1 < ss.length by omega, hn]
theorem ascB_yes (ss : List ByteArray) (h : ∀ k, (hk : k < ss.length) → 1 ≤ k → lessB (ss[k - 1]'(by omega)) ss[k] = true) : ascB ss = true := by
  unfold ascB
  rw [List.all_eq_true]
  intro k hk
  have hl := List.mem_range.1 hk
  have := h (k + 1) (by omega) (by omega)
  simp only [Nat.add_sub_cancel] at this
  simp [show k < ss.length by omega, show k + 1 < ss.length by omega, this]

/-- A bool is handed back; the world only drew. -/
def BoolDrew (b : Bool) (w : World) (e : Ending) (w' : World) : Prop := e = .returned (.bool b) ∧ ∃ n, w' = w.drewN n

set_option maxHeartbeats 1000000 in
theorem specAreAscending_any (A : Option Addr) (c B : Nat) (ss : List ByteArray) (w : World) (hA : StrsAt w B A ss) (hn : ss.length < maxLen) :
    Calls Tryz.prog 81 #[.slice A ss.length c] w (BoolDrew (ascB ss) w) := by
  unfold maxLen at hn
  go_enter Tryz.func81, Tryz.ntmps81
  go_wp2
  go_loopw [3] (fun i wr => ∃ k : Nat, k ≤ ss.length + 1 ∧ 1 ≤ k ∧ i = .int .i64 k ∧ (∀ j, (hj : j < ss.length) → 1 ≤ j → j < k → lessB (ss[j - 1]'(by omega)) ss[j] = true) ∧ ∃ n, wr = w.drewN n) (fun i _ => ss.length - (intOf i).toNat)
  case atStart => exact ⟨1, by omega, by omega, rfl, fun j _ h1 h2 => absurd h2 (by omega), 0, rfl⟩
  case round =>
    obtain ⟨k, hk, hk1, rfl, hall, n, rfl⟩ := hrel
    have HA := Lib.hid hall
    clear hall
    by_cases hlt : k < ss.length
    · have hltI : (k : Int) < (ss.length : Int) := by omega
      obtain ⟨b, off, rfl, _, hcell⟩ := hA k hlt
      obtain ⟨b', off', e', _, hcell'⟩ := hA (k - 1) (by omega)
      cases e'
      cases hles : lessB (ss[k - 1]'(by omega)) ss[k]
      · have hd := Lib.hid (ascB_no ss k hk1 hlt hles)
        have hq : (!Op.bytesLess (ss[k - 1]'(by omega)).toList ss[k].toList) = true := by
          rw [ByteArray.toList_eq, ByteArray.toList_eq, show Op.bytesLess _ _ = false from hles]
          rfl
        clear hles
        go_wp2
        go_quiet (fail)
        go_wp2
        go_ret
        exact ⟨by rw [hd.out]; rfl, _, World.drewN_drewN _ _ _⟩
      · have hq : (!Op.bytesLess (ss[k - 1]'(by omega)).toList ss[k].toList) = false := by
          rw [ByteArray.toList_eq, ByteArray.toList_eq, show Op.bytesLess _ _ = true from hles]
          rfl
        have HE := Lib.hid hles
        clear hles
        go_wp2
        go_quiet (fail)
        go_wp2
        go_roundw
        case rel =>
          refine ⟨k + 1, by omega, by omega, by go_num, fun j hj h1 h2 => ?_, _, rfl⟩
          by_cases e : j = k
          · subst e
            exact HE.out
          · exact HA.out j hj h1 (by omega)
        case measure => simp [intOf]; omega
    · have hltI : ¬ (k : Int) < (ss.length : Int) := by omega
      have hd := Lib.hid (ascB_yes ss (fun j hj h1 => HA.out j hj h1 (by omega)))
      go_wp2
      go_ret
      exact ⟨by rw [hd.out]; rfl, n, rfl⟩

end Go.Proofs.YtceclhndagoddaaGreatDoor
end

section
namespace Go.Proofs.YtceclhndagoddaaGreatDoor
open Go.RowKit

/-- A bool is handed back; what was there stands. -/
def BoolIs (b : Bool) (w : World) (e : Ending) (w' : World) : Prop := e = .returned (.bool b) ∧ Below w.heap.size w w'

theorem l1In_yes (x lo hi : Int) (w : World) (h1 : lo ≤ x) (h2 : x ≤ hi) : Calls Tryz.prog 51 #[.int .i64 x, .int .i64 lo, .int .i64 hi] w fun e w' => e = .returned (.bool true) ∧ w = w' := by
  go_enter Tryz.func51, Tryz.ntmps51
  go_wp2
  go_ret
  exact ⟨rfl, rfl⟩
theorem l1In_no (x lo hi : Int) (w : World) (h : x < lo ∨ hi < x) : Calls Tryz.prog 51 #[.int .i64 x, .int .i64 lo, .int .i64 hi] w fun e w' => e = .returned (.bool false) ∧ w = w' := by
  by_cases h1 : lo ≤ x
  · have h2 : ¬ x ≤ hi := by omega
    clear h
    go_enter Tryz.func51, Tryz.ntmps51
    go_wp2
    go_ret
    exact ⟨rfl, rfl⟩
  · clear h
    go_enter Tryz.func51, Tryz.ntmps51
    go_wp2
    go_ret
    exact ⟨rfl, rfl⟩

/-- Can they be the labels of a record or a sum? -/
def labelsB (ls : List ByteArray) : Bool := ls.all isNameB && (decide (1 ≤ ls.length) && decide (ls.length ≤ 4)) && ascB ls
theorem labelsB_no (ls : List ByteArray) (k : Nat) (h : k < ls.length) (hn : isNameB ls[k] = false) : labelsB ls = false := by
  have : ls.all isNameB = false := by
    rw [List.all_eq_false]
    exact ⟨_, List.getElem_mem h, by rw [hn]; simp⟩
  unfold labelsB
  rw [this]
  rfl
theorem labelsB_all (ls : List ByteArray) (h : ∀ k, (hk : k < ls.length) → isNameB ls[k] = true) : labelsB ls = ((decide (1 ≤ ls.length) && decide (ls.length ≤ 4)) && ascB ls) := by
  have : ls.all isNameB = true := by
    rw [List.all_eq_true]
    intro x hx
    obtain ⟨i, hi, rfl⟩ := List.getElem_of_mem hx
    exact h i hi
  unfold labelsB
  rw [this, Bool.true_and]

set_option maxHeartbeats 1000000 in
theorem specLabels_any (A : Option Addr) (c : Nat) (ss : List ByteArray) (w : World) (hA : StrsAt w w.heap.size A ss) (hn : ss.length < maxLen) (hs : ∀ i, (h : i < ss.length) → ss[i].size ≤ maxLen) :
    Calls Tryz.prog 52 #[.slice A ss.length c] w (BoolIs (labelsB ss) w) := by
  have hasc := Lib.hid (specAreAscending_any A c w.heap.size ss w hA hn)
  unfold maxLen at hn
  have HS := Lib.hid hs
  clear hs
  go_enter Tryz.func52, Tryz.ntmps52
  go_wp2
  go_loop [3] (fun i => ∃ k : Nat, k ≤ ss.length ∧ i = .int .i64 k ∧ ∀ j, (hj : j < ss.length) → j < k → isNameB ss[j] = true) (fun i => ss.length - (intOf i).toNat)
  case atStart => exact ⟨0, Nat.zero_le _, rfl, fun j _ h => absurd h (by omega)⟩
  case round =>
    obtain ⟨k, hk, rfl, hall⟩ := hrel
    have HA := Lib.hid hall
    clear hall
    by_cases hlt : k < ss.length
    · obtain ⟨b, off, rfl, _, hcell⟩ := hA k hlt
      have hnm := specIsName_any ss[k] w (HS.out k hlt)
      cases hb : isNameB ss[k]
      · have hd := Lib.hid (labelsB_no ss k hlt hb)
        rw [hb] at hnm
        have HN := Lib.hid hnm
        clear hb hnm
        go_wp2_with fail
        refine HN.out.mono ?_
        rintro e w1 ⟨rfl, rfl⟩
        go_wp2
        go_ret
        exact ⟨by rw [hd.out]; rfl, Below.refl _ _⟩
      · rw [hb] at hnm
        have HN := Lib.hid hnm
        have HB := Lib.hid hb
        clear hb hnm
        go_wp2_with fail
        refine HN.out.mono ?_
        rintro e w1 ⟨rfl, rfl⟩
        go_wp2
        go_round
        case rel =>
          refine ⟨k + 1, by omega, by go_num, fun j hj h => ?_⟩
          by_cases e : j = k
          · subst e
            exact HB.out
          · exact HA.out j hj (by omega)
        case measure => simp [intOf]; omega
    · have hd := Lib.hid (labelsB_all ss (fun j hj => HA.out j hj (by omega)))
      by_cases h1 : 1 ≤ ss.length ∧ ss.length ≤ 4
      · have i1 : (1 : Int) ≤ ss.length := by omega
        have i2 : (ss.length : Int) ≤ 4 := by omega
        have he := Lib.hid (show labelsB ss = ascB ss by rw [hd.out]; simp [h1])
        clear h1
        go_wp2_with fail
        refine (l1In_yes _ 1 4 w i1 i2).mono ?_
        rintro e w1 ⟨rfl, rfl⟩
        go_wp2_with fail
        refine hasc.out.mono ?_
        rintro e w1 ⟨rfl, n, rfl⟩
        go_wp2
        go_ret
        exact ⟨by rw [he.out]; rfl, ⟨rfl, rfl, rfl, Nat.le_refl _, fun _ _ => rfl⟩⟩
      · have i1 : (ss.length : Int) < 1 ∨ 4 < (ss.length : Int) := by omega
        have he := Lib.hid (show labelsB ss = false by
          rw [hd.out]
          have : (decide (1 ≤ ss.length) && decide (ss.length ≤ 4)) = false := by
            simp only [Bool.and_eq_false_iff, decide_eq_false_iff_not]
            omega
          rw [this]
          rfl)
        clear h1
        go_wp2_with fail
        refine (l1In_no _ 1 4 w i1).mono ?_
        rintro e w1 ⟨rfl, rfl⟩
        go_wp2
        go_ret
        exact ⟨by rw [he.out]; rfl, Below.refl _ _⟩

/-- Has a node of this kind these labels and so many parts? -/
def nodeB (k : Int) (ls : List ByteArray) (m : Nat) : Bool :=
  if k = 1 ∨ k = 2 then decide (ls.length = 0) && decide (m = 0) else if k = 3 ∨ k = 4 then decide (m = ls.length) && labelsB ls else if k = 5 then decide (ls.length = 0) && decide (m = 1) else false
mutual
/-- Has every node one of the forms? -/
def formTy : Ty → Bool | .mk k ls ts => formTys ts && nodeB k ls ts.length
def formTys : List Ty → Bool | [] => true | t :: r => formTy t && formTys r
end
theorem formTys_all : ∀ (ts : List Ty), (∀ i, (h : i < ts.length) → formTy ts[i] = true) → formTys ts = true
  | [], _ => by rw [formTys]
  | t :: r, h => by
    rw [formTys, show formTy t = true from h 0 (by simp), formTys_all r fun i hi => h (i + 1) (by simpa using hi)]
    rfl
theorem formTys_no : ∀ (ts : List Ty) (i : Nat) (h : i < ts.length), formTy ts[i] = false → formTys ts = false
  | [], i, h, _ => absurd h (by simp)
  | t :: r, 0, _, e => by
    rw [formTys]
    have : formTy t = false := e
    rw [this]
    rfl
  | t :: r, i + 1, h, e => by
    rw [formTys, formTys_no r i (by simpa using h) (by simpa using e), Bool.and_false]

def FormOne (f : Nat) (t : Ty) : Prop := ∀ (v : Value) (w : World), TyAt w w.heap.size v t → szTy t ≤ 1048576 → Calls Tryz.prog f #[v] w (BoolIs (formTy t) w)

end Go.Proofs.YtceclhndagoddaaGreatDoor

namespace Go.Proofs.YtceclhndagoddaaGreatDoor
open Go.RowKit

/-- The same strings? -/
def textsB (a b : List ByteArray) : Bool := decide (a = b)
theorem textsB_len (a b : List ByteArray) (h : a.length ≠ b.length) : textsB a b = false := by
  unfold textsB
  simp
  exact fun e => h (by rw [e])
theorem textsB_no (a b : List ByteArray) (k : Nat) (h1 : k < a.length) (h2 : k < b.length) (h : a[k] ≠ b[k]) : textsB a b = false := by
  unfold textsB
  simp
  intro e
  subst e
  exact h rfl
theorem textsB_yes (a b : List ByteArray) (hl : a.length = b.length) (h : ∀ k, (h1 : k < a.length) → (h2 : k < b.length) → a[k] = b[k]) : textsB a b = true := by
  unfold textsB
  simp
  exact List.ext_getElem hl h

/-- The same tree? -/
noncomputable def eqTyB (a b : Ty) : Bool := @decide (a = b) (Classical.propDecidable _)
theorem eqTyB_yes {a b : Ty} (h : a = b) : eqTyB a b = true := by unfold eqTyB; simp [h]
theorem eqTyB_no {a b : Ty} (h : a ≠ b) : eqTyB a b = false := by unfold eqTyB; simp [h]
theorem Ty.ext {a b : Ty} (h1 : a.kind = b.kind) (h2 : a.labels = b.labels) (h3 : a.args = b.args) : a = b := by
  cases a; cases b
  simp only [Ty.kind, Ty.labels, Ty.args] at h1 h2 h3
  rw [h1, h2, h3]

def EqualOne (f : Nat) (t : Ty) : Prop := ∀ (t' : Ty) (v v' : Value) (w : World), TyAt w w.heap.size v t → TyAt w w.heap.size v' t' → Calls Tryz.prog f #[v, v'] w (BoolIs (eqTyB t t') w)

end Go.Proofs.YtceclhndagoddaaGreatDoor

namespace Go.Proofs.YtceclhndagoddaaGreatDoor
open Go.RowKit

/-- Is it a valid type? -/
def validB (t : Ty) : Bool := decide (sizeTy t ≤ 30) && decide (depthTy t ≤ 8) && formTy t

/-- A valid record type of equal parts? -/
noncomputable def uniformB (t : Ty) : Bool := validB t && decide (t.kind = 3) && (match t.args with | [] => true | a :: r => r.all fun b => eqTyB a b)
theorem uniform_no (t : Ty) (k : Nat) (h0 : 0 < t.args.length) (h : k < t.args.length) (hk : 1 ≤ k) (hne : t.args[0] ≠ t.args[k]) : uniformB t = false := by
  unfold uniformB
  cases ha : t.args with
  | nil => rw [ha] at h; simp at h
  | cons a r =>
    have h' : k - 1 < r.length := by rw [ha] at h; simp at h; omega
    have e1 : t.args[0] = a := by simp [ha]
    have e2 : t.args[k] = r[k - 1] := by
      have : t.args[k]? = r[k - 1]? := by
        rw [ha]
        cases k with
        | zero => omega
        | succ k => simp
      rw [List.getElem?_eq_getElem h, List.getElem?_eq_getElem h'] at this
      exact Option.some.inj this
    rw [e1, e2] at hne
    have : (r.all fun b => eqTyB a b) = false := by
      rw [List.all_eq_false]
      exact ⟨_, List.getElem_mem h', by rw [eqTyB_no hne]; simp⟩
    simp [this]
theorem uniform_yes (t : Ty) (hv : validB t = true) (hk : t.kind = 3) (h : ∀ k, (hk : k < t.args.length) → 1 ≤ k → t.args[0]'(by omega) = t.args[k]) : uniformB t = true := by
  unfold uniformB
  rw [hv]
  cases ha : t.args with
  | nil => simp [hk]
  | cons a r =>
    have : (r.all fun b => eqTyB a b) = true := by
      rw [List.all_eq_true]
      intro b hb
      obtain ⟨i, hi, rfl⟩ := List.getElem_of_mem hb
      have := h (i + 1) (by rw [ha]; simpa using hi) (by omega)
      apply eqTyB_yes
      simpa [ha] using this
    simp [hk, this]

end Go.Proofs.YtceclhndagoddaaGreatDoor
end
