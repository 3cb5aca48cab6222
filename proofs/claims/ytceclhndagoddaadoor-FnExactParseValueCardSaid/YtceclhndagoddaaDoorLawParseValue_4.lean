/- Lemmas: HeldVa, SpecTy2, SpecNames. -/
import Derived.Test.YtceclhndagoddaaDoorLawParseValue_3
import Derived.Test.YtceclhndagoddaaDoorLawParseValue_2
import Derived.Test.YtceclhndagoddaaDoorProg
import Derived.Test.YtceclhndagoddaaDoorLawParseValue_1
import Derived.BigGuard
import Derived.WalkLawsBesides

section
namespace Go.Proofs.YtceclhndagoddaaDoor
open Go.RowKit

theorem markVMany_any (t : Va) : MarkVMany t.args := by
  induction t using Va.ind with
  | h k n nm ls ts ih => exact markValueS_of ts ih

/-- A tree is marked. -/
def MarkedVa (w : World) (S : Nat → Prop) (v : Value) (k : Nat) (t : Va) (e : Ending) (w' : World) : Prop :=
  e = .returned (.int .i64 ((k + cntVa t : Nat) : Int)) ∧ VaIn w' S v (markVa t k) ∧ OnlyIn S w w'

set_option maxHeartbeats 1000000 in
theorem markValue_any (t : Va) (S : Nat → Prop) (v : Value) (k : Nat) (w : World) (hv : VaIn w S v t) (h0 : 0 < k) (h1 : k + cntVa t ≤ 2 ^ 62) (hS : ∀ b, S b → b < w.heap.size) :
    Calls Tryd.prog 8 #[v, .int .i64 k] w (MarkedVa w S v k t) := by
  have hc := Lib.hid (cntVa_eq t)
  have hq1 : k + t.labels.length + cntVas t.args ≤ 2 ^ 62 := by have := hc.out; omega
  obtain ⟨L, lc, A, ac, gl, rfl, hnm, hn, hz, hl, ha⟩ := hv.open
  obtain ⟨hb0, p0, hs0⟩ := boxes1 w 25 #[.int .i64 t.kind, .int .i64 t.num, .string t.name, .slice L t.labels.length lc, .slice A t.args.length ac]
  have hk0 : ∀ b, b < w.heap.size → (w.alloc (.cells #[.int .i64 t.kind, .int .i64 t.num, .string t.name, .slice L t.labels.length lc, .slice A t.args.length ac] 25)).heap[b]? = w.heap[b]? := fun b hb => hb0.block b hb
  have HS := Lib.hid hS
  have HL := Lib.hid hl
  have HA := Lib.hid ha
  clear hz hl ha hv hS
  go_enter Tryd.func8, Tryd.ntmps8
  go_wp2_with fail
  generalize w.alloc (.cells #[.int .i64 t.kind, .int .i64 t.num, .string t.name, .slice L t.labels.length lc, .slice A t.args.length ac] 25) = w0 at *
  have HZ := Lib.hid hs0
  have HK := Lib.hid hk0
  clear hs0 hk0
  refine (markLabels L lc k gl t.labels w0 (HL.out.imp id fun ⟨h1, h2, h3⟩ => ⟨h1, h3.same (HK.out gl h3.lt)⟩) h0 (by omega)).mono ?_
  rintro e w1 ⟨rfl, hl1, ho1⟩
  have hs1 := ho1.size
  have hgl : ¬ (w.heap.size = gl ∧ t.labels ≠ []) := fun ⟨h1, h2⟩ => by
    rcases HL.out with h | ⟨_, h, h'⟩
    · exact h2 h
    · have := HS.out gl h
      omega
  have p1 : Whole1 w1 w.heap.size 25 #[.int .i64 t.kind, .int .i64 t.num, .string t.name, .slice L t.labels.length lc, .slice A t.args.length ac] := (ho1.block _ p0.lt hgl).trans p0
  have c1 : w1.cell? ⟨w.heap.size, 4, none⟩ = some (.slice A t.args.length ac) := p1.cell 4
  have ha1 := Lib.hid ((HA.out.keep (fun b _ hb => HK.out b hb)).keep (fun b hb hlt => ho1.block b hlt fun h => hb.2 h.1))
  clear p0 p1
  go_wp2_with fail
  refine (markVMany_any t _ A ac (k + t.labels.length) w1 ha1.out (by omega) (by omega)).mono ?_
  rintro e w2 ⟨rfl, ht2, ho2⟩
  have HT := Lib.hid ht2
  have hfin : Hid (VaIn w2 S (.agg #[.int .i64 t.kind, .int .i64 t.num, .string t.name, .slice L t.labels.length lc, .slice A t.args.length ac]) (markVa t k)) := Lib.hid (markVIn k hnm hn (by omega) (by
      rcases hl1 with h | h
      · exact .inl h
      · rcases HL.out with h5 | ⟨h5, h6, _⟩
        · exact .inl h5
        · exact .inr ⟨h5, h6, h.same (ho2.block gl h.lt fun h => h.2 rfl)⟩) HT.out (fun b hb => hb))
  have hO : OnlyIn S w w2 := (OnlyIn.of_below hb0).trans ((ho1.wide fun b hb => by
    rcases HL.out with h5 | ⟨_, h6, _⟩
    · exact absurd h5 hb.2
    · rw [hb.1]; exact h6).trans (ho2.wide fun b hb => hb.1))
  clear ht2 hl1
  go_wp2
  go_ret
  exact ⟨by rw [hc.out, ← Nat.add_assoc]; rfl, hfin.out, hO⟩

def HeldVMany (ts : List Va) : Prop := ∀ (A : Option Addr) (c k : Nat) (w : World), VasAt w w.heap.size A (markVas ts k) → 0 < k → k + cntVas ts ≤ 2 ^ 62 → Calls Tryd.prog 35 #[.slice A ts.length c, .int .i64 k] w (HeldTo w (k + cntVas ts))

theorem vmarked_elem {w : World} {B k : Nat} {A : Option Addr} {ts : List Va} (h : VasAt w B A (markVas ts k)) (i : Nat) (hi : i < ts.length) :
    ∃ b off L lc A' ac, A = some ⟨b, off, none⟩ ∧ b < B ∧ w.cell? ⟨b, off + i * 5, none⟩ = some (.int .i64 ((k + cntVas (ts.take i) : Nat) : Int)) ∧ w.cell? ⟨b, off + i * 5 + 1, none⟩ = some (.int .i64 ((k + cntVas (ts.take i) + 1 : Nat) : Int)) ∧ w.cell? ⟨b, off + i * 5 + 2, none⟩ = some (.string (markB (k + cntVas (ts.take i) + 2))) ∧ w.cell? ⟨b, off + i * 5 + 3, none⟩ = some (.slice L ts[i].labels.length lc) ∧
      w.cell? ⟨b, off + i * 5 + 4, none⟩ = some (.slice A' ts[i].args.length ac) ∧ StrsAt w B L (marks (k + cntVas (ts.take i) + 3) ts[i].labels.length) ∧ VasAt w B A' (markVas ts[i].args (k + cntVas (ts.take i) + 3 + ts[i].labels.length)) := by
  have hl := markVas_len ts k
  have hi' : i < (markVas ts k).length := by omega
  obtain ⟨b, off, L, lc, A', ac, h1, h2, h3, hN, hM, h4, h5, hat⟩ := h.elem i hi'
  obtain ⟨L2, lc2, A2, ac2, he, _, _, _, h6, h7⟩ := hat.open
  simp only [Value.agg.injEq, Array.mk.injEq, List.cons.injEq, Value.slice.injEq, and_true, true_and] at he
  obtain ⟨⟨rfl, rfl⟩, rfl, rfl⟩ := he
  have hg := markVas_get ts k i hi
  rw [List.getElem?_eq_getElem hi'] at hg
  have hg' := Option.some.inj hg
  rw [hg'] at h3 hN hM h4 h5 h6 h7
  refine ⟨b, off, L, lc, A', ac, h1, h2, ?_, ?_, ?_, ?_, ?_, ?_, ?_⟩
  · revert h3; cases ts[i]; rw [markVa]; exact id
  · revert hN; cases ts[i]; rw [markVa]; exact id
  · revert hM; cases ts[i]; rw [markVa]; exact id
  · revert h4; cases ts[i]; rw [markVa]; simp only [setHead, Va.labels, marks_len]; exact id
  · revert h5; cases ts[i]; rw [markVa]; simp only [setHead, Va.args, markVas_len]; exact id
  · revert h6; cases ts[i]; rw [markVa]; exact id
  · revert h7; cases ts[i]; rw [markVa]; exact id

set_option maxHeartbeats 1000000 in
theorem heldValueS_of (ts : List Va) (hall : ∀ i, (h : i < ts.length) → HeldVMany ts[i].args) : HeldVMany ts := by
  intro A c k w hA h0 h1
  have HALL := Lib.hid hall
  clear hall
  have hm := hA.1
  rw [markVas_len] at hm
  unfold maxLen at hm
  go_enter Tryd.func35, Tryd.ntmps35
  go_wp2
  go_loopw [1, 5] (fun m i wr => ∃ j q : Nat, j ≤ ts.length ∧ i = .int .i64 j ∧ m = .int .i64 (q : Int) ∧ Hid (q = k + cntVas (ts.take j)) ∧ Below w.heap.size w wr) (fun _ i _ => ts.length - (intOf i).toNat)
  case atStart => exact ⟨0, k, Nat.zero_le _, rfl, rfl, Lib.hid (by simp [cntVas]), Below.refl _ _⟩
  case round =>
    obtain ⟨j, q, hj, rfl, rfl, hq, hb⟩ := hrel
    by_cases hlt : j < ts.length
    · have hc1 := Lib.hid (cntVas_take ts j hlt)
      have hc2 := cntVas_le ts (j + 1)
      have hc4 := Lib.hid (cntVa_eq ts[j])
      have hq1 : q + 3 + ts[j].labels.length + cntVas ts[j].args ≤ 2 ^ 62 := by have := hc1.out; have := hc4.out; have := hq.out; omega
      obtain ⟨b, off, L, lc, A', ac, rfl, hbl, q0, qn, qm, q1, q2, hl, ha⟩ := vmarked_elem (hA.below hb) j hlt
      rw [← hq.out] at q0 qn qm hl ha
      rw [show ((q + 1 : Nat) : Int) = (q : Int) + 1 by omega] at qn
      have hbs := hb.size
      have hbl' : b < wr.heap.size := by omega
      have hne : ((q : Int) != (q : Int)) = false := by simp
      have hne1 : ((q : Int) + 1 != (q : Int) + 1) = false := by simp
      have hne2 : ((markB (q + 2)).toList != (markB (q + 2)).toList) = false := by simp
      have hne3 : ((markB (q + 2)).toList == (markB (q + 2)).toList) = true := by simp
      have HMT := Lib.hid (fun W => (show Calls Tryd.prog 79 #[.int .i64 ((q : Int) + 1 + 1)] W fun e w' => e = .returned (.string (markB (q + 2))) ∧ Below W.heap.size W w' by
        have := markText_any (q + 2) W (by omega) (by omega)
        rw [show ((q + 2 : Nat) : Int) = (q : Int) + 1 + 1 by omega] at this
        exact this))
      have HHL := Lib.hid (fun (W : World) (hW : StrsAt W W.heap.size L (marks (q + 3) ts[j].labels.length)) => (show Calls Tryd.prog 34 #[.slice L ts[j].labels.length lc, .int .i64 ((q : Int) + 1 + 1 + 1)] W (HeldTo W (q + 3 + ts[j].labels.length)) by
        have := heldLabels L lc (q + 3) ts[j].labels.length W hW (by omega) (by omega)
        rw [show ((q + 3 : Nat) : Int) = (q : Int) + 1 + 1 + 1 by omega] at this
        exact this))
      generalize hmb : markB (q + 2) = mb at *
      clear hmb
      go_wp2
      go_region_held3 (fun w' => w'.cell? ⟨b, off + j * 5 + 2, none⟩ = some (.string mb) ∧ Below wr.heap.size wr w') ((first | exact ⟨qm, (Below.refl _ _).drew⟩ | exact ⟨hk1, hk2⟩))
        (first | (go_at_call 79; refine (HMT.out _).mono ?_; rintro e w' ⟨rfl, hbm⟩; have hk2 := (Below.refl wr.heap.size wr).drew.trans hbm; have hk1 := (hk2.cell (p := ⟨b, off + j * 5 + 2, none⟩) hbl').trans qm))
      have hsk := hk2.size
      have q1' := (hk2.cell (p := ⟨b, off + j * 5 + 3, none⟩) hbl').trans q1
      have hbk := hb.trans (hk2.mono hbs)
      have hbl2 : b < w'.heap.size := by omega
      have q2k := (hk2.cell (p := ⟨b, off + j * 5 + 4, none⟩) hbl').trans q2
      have hl2 := (hl.more hbs).up' hk2
      have ha2 := (ha.more hbs).up hk2
      clear q0 qn qm q1 q2 hl ha hne hne1 hne2 hne3 hk1 hbm
      go_wp2_with fail
      refine (HHL.out _ hl2).mono ?_
      rintro e w1 ⟨rfl, hb1⟩
      have q2' := (hb1.cell (p := ⟨b, off + j * 5 + 4, none⟩) hbl2).trans q2k
      have hb1' := hbk.trans (hb1.mono hbk.size)
      have HT := Lib.hid (HALL.out j hlt A' ac (q + 3 + ts[j].labels.length) w1 (ha2.up hb1) (by omega) (by omega))
      have hnn : ¬ ((q + 3 + ts[j].labels.length : Nat) : Int) < 0 := by omega
      clear q1' q2k hl2 ha2
      go_wp2_with fail
      refine HT.out.mono ?_
      rintro e w2 ⟨rfl, hb2⟩
      go_wp2
      go_roundw
      case rel => exact ⟨j + 1, q + 3 + ts[j].labels.length + cntVas ts[j].args, by omega, by go_num, rfl, Lib.hid (by have := hc1.out; have := hc4.out; have := hq.out; omega), hb1'.trans (hb2.mono hb1'.size)⟩
      case measure => simp [intOf]; omega
    · have hje : j = ts.length := by omega
      subst hje
      rw [List.take_length] at hq
      go_wp2
      go_ret
      exact ⟨by rw [hq.out]; rfl, hb⟩

theorem heldVMany_any (t : Va) : HeldVMany t.args := by
  induction t using Va.ind with
  | h k n nm ls ts ih => exact heldValueS_of ts ih

set_option maxHeartbeats 1000000 in
theorem heldValue_any (t : Va) (v : Value) (k : Nat) (w : World) (hv : VaAt w w.heap.size v (markVa t k)) (h0 : 0 < k) (h1 : k + cntVa t ≤ 2 ^ 62) :
    Calls Tryd.prog 9 #[v, .int .i64 k] w (HeldTo w (k + cntVa t)) := by
  have hc := Lib.hid (cntVa_eq t)
  have hq1 : k + t.labels.length + cntVas t.args ≤ 2 ^ 62 := by have := hc.out; omega
  have hv' : ∃ L lc A ac, v = .agg #[.int .i64 t.kind, .int .i64 t.num, .string t.name, .slice L t.labels.length lc, .slice A t.args.length ac] ∧ StrsAt w w.heap.size L (marks k t.labels.length) ∧ VasAt w w.heap.size A (markVas t.args (k + t.labels.length)) := by
    obtain ⟨L, lc, A, ac, e, _, _, _, h3, h4⟩ := hv.open
    refine ⟨L, lc, A, ac, ?_, ?_, ?_⟩
    · rw [e]; cases t; rw [markVa]; simp only [Va.labels, Va.args, Va.kind, Va.num, Va.name, marks_len, markVas_len]
    · revert h3; cases t; rw [markVa]; exact id
    · revert h4; cases t; rw [markVa]; exact id
  obtain ⟨L, lc, A, ac, rfl, hl, ha⟩ := hv'
  obtain ⟨hb0, p0, hs0⟩ := boxes1 w 25 #[.int .i64 t.kind, .int .i64 t.num, .string t.name, .slice L t.labels.length lc, .slice A t.args.length ac]
  have HZ := Lib.hid hs0
  clear hv hs0
  go_enter Tryd.func9, Tryd.ntmps9
  go_wp2_with fail
  generalize w.alloc (.cells #[.int .i64 t.kind, .int .i64 t.num, .string t.name, .slice L t.labels.length lc, .slice A t.args.length ac] 25) = w0 at *
  refine (heldLabels L lc k t.labels.length w0 (hl.up' hb0) h0 (by omega)).mono ?_
  rintro e w1 ⟨rfl, hb1⟩
  have p1 := p0.below hb1 p0.lt
  have c1 : w1.cell? ⟨w.heap.size, 4, none⟩ = some (.slice A t.args.length ac) := p1.cell 4
  have hb1' := hb0.trans (hb1.mono hb0.size)
  clear p0 p1
  go_wp2_with fail
  refine (heldVMany_any t A ac (k + t.labels.length) w1 (ha.up hb1') (by omega) (by omega)).mono ?_
  rintro e w2 ⟨rfl, hb2⟩
  go_wp2
  go_ret
  exact ⟨by rw [hc.out, ← Nat.add_assoc]; rfl, hb1'.trans (hb2.mono hb1'.size)⟩

end Go.Proofs.YtceclhndagoddaaDoor
end

section
namespace Go.Proofs.YtceclhndagoddaaDoor
open Go.RowKit

mutual
/-- The number of nodes. -/
def sizeTy : Ty → Nat | .mk _ _ ts => 1 + sizeTys ts
def sizeTys : List Ty → Nat | [] => 0 | t :: r => sizeTy t + sizeTys r
end
mutual
/-- The depth. -/
def depthTy : Ty → Nat | .mk _ _ ts => depthTys ts + 1
def depthTys : List Ty → Nat | [] => 0 | t :: r => max (depthTy t) (depthTys r)
end
theorem sizeTy_eq (t : Ty) : sizeTy t = 1 + sizeTys t.args := by cases t; rw [sizeTy]; rfl
theorem depthTy_eq (t : Ty) : depthTy t = depthTys t.args + 1 := by cases t; rw [depthTy]; rfl
theorem sizeTys_append : ∀ (a b : List Ty), sizeTys (a ++ b) = sizeTys a + sizeTys b
  | [], b => by simp [sizeTys]
  | t :: a, b => by
    rw [List.cons_append, sizeTys, sizeTys, sizeTys_append a b]
    omega
theorem sizeTys_take (ts : List Ty) (k : Nat) (h : k < ts.length) : sizeTys (ts.take (k + 1)) = sizeTys (ts.take k) + sizeTy ts[k] := by
  rw [List.take_succ_eq_append_getElem h, sizeTys_append, sizeTys, sizeTys]
  omega
theorem sizeTys_le (ts : List Ty) (k : Nat) : sizeTys (ts.take k) ≤ sizeTys ts := by
  have h := sizeTys_append (ts.take k) (ts.drop k)
  rw [List.take_append_drop] at h
  omega
theorem depthTys_append : ∀ (a b : List Ty), depthTys (a ++ b) = max (depthTys a) (depthTys b)
  | [], b => by simp [depthTys]
  | t :: a, b => by
    rw [List.cons_append, depthTys, depthTys, depthTys_append a b]
    omega
theorem depthTys_take (ts : List Ty) (k : Nat) (h : k < ts.length) : depthTys (ts.take (k + 1)) = max (depthTys (ts.take k)) (depthTy ts[k]) := by
  rw [List.take_succ_eq_append_getElem h, depthTys_append, depthTys, depthTys]
  omega
mutual
theorem size_le_sz : ∀ (t : Ty), sizeTy t ≤ szTy t + 1
  | .mk _ ls ts => by
    rw [sizeTy, szTy]
    have := sizes_le_szs ts
    omega
theorem sizes_le_szs : ∀ (ts : List Ty), sizeTys ts ≤ szTys ts
  | [] => Nat.le_refl _
  | t :: r => by
    rw [sizeTys, szTys]
    have := size_le_sz t
    have := sizes_le_szs r
    omega
end
mutual
theorem depth_le_size : ∀ (t : Ty), depthTy t ≤ sizeTy t
  | .mk _ _ ts => by
    rw [depthTy, sizeTy]
    have := depths_le_sizes ts
    omega
theorem depths_le_sizes : ∀ (ts : List Ty), depthTys ts ≤ sizeTys ts
  | [] => Nat.le_refl _
  | t :: r => by
    rw [depthTys, sizeTys]
    have := depth_le_size t
    have := depths_le_sizes r
    omega
end

/-- A tree is boxed: what the box holds, and what its parts are. -/
theorem boxTy {w : World} {t : Ty} {v : Value} (hv : TyAt w w.heap.size v t) : ∃ L lc A ac, v = .agg #[.int .i64 t.kind, .slice L t.labels.length lc, .slice A t.args.length ac] ∧
    t.labels.length ≤ maxLen ∧ (∀ i, (h : i < t.labels.length) → t.labels[i].size ≤ maxLen) ∧ StrsAt w w.heap.size L t.labels ∧ TysAt w w.heap.size A t.args := hv.open

def SizeOne (f : Nat) (t : Ty) : Prop := ∀ (v : Value) (w : World), TyAt w w.heap.size v t → sizeTy t ≤ 2000000 → Calls Tryd.prog f #[v] w (IntBelow (sizeTy t) w)

end Go.Proofs.YtceclhndagoddaaDoor

namespace Go.Proofs.YtceclhndagoddaaDoor
open Go.RowKit

theorem l1Max_any (a b : Int) (w : World) : Calls Tryd.prog 103 #[.int .i64 a, .int .i64 b] w fun e w' => e = .returned (.int .i64 (max a b)) ∧ w = w' := by
  by_cases h : b < a
  · have e : max a b = a := by omega
    rw [e]
    clear e
    go_enter Tryd.func103, Tryd.ntmps103
    go_wp2
    go_ret
    exact ⟨rfl, rfl⟩
  · have e : max a b = b := by omega
    rw [e]
    clear e
    go_enter Tryd.func103, Tryd.ntmps103
    go_wp2
    go_ret
    exact ⟨rfl, rfl⟩

def DepthOne (f : Nat) (t : Ty) : Prop := ∀ (v : Value) (w : World), TyAt w w.heap.size v t → sizeTy t ≤ 2000000 → Calls Tryd.prog f #[v] w (IntBelow (depthTy t) w)

set_option maxHeartbeats 1000000 in
theorem specDepthOf_of (k0 : Int) (ls : List ByteArray) (ts : List Ty) (hall : ∀ i, (h : i < ts.length) → DepthOne 58 ts[i]) : DepthOne 58 (.mk k0 ls ts) := by
  intro v w hv hsz
  have hse := Lib.hid (depthTy_eq (.mk k0 ls ts))
  have hse2 : sizeTys ts ≤ 2000000 := by have := sizeTy_eq (.mk k0 ls ts); simp only [Ty.args] at this; omega
  obtain ⟨L, lc, A, ac, rfl, _, _, _, ha⟩ := hv.open
  simp only [Ty.kind, Ty.labels, Ty.args] at *
  have hm := ha.1
  unfold maxLen at hm
  have HALL := Lib.hid hall
  clear hall hv
  obtain ⟨hb0, p0, hs0⟩ := boxes1 w 35 #[.int .i64 k0, .slice L ls.length lc, .slice A ts.length ac]
  have ha0 := ha.up hb0
  have HZ := Lib.hid hs0
  clear ha hs0
  go_enter Tryd.func58, Tryd.ntmps58
  go_wp2
  generalize w.alloc (.cells #[.int .i64 k0, .slice L ls.length lc, .slice A ts.length ac] 35) = w0 at *
  have hpl := p0.lt
  go_loopw [3, 4] (fun n i wr => ∃ k d : Nat, k ≤ ts.length ∧ i = .int .i64 k ∧ n = .int .i64 (d : Int) ∧ Hid (d = depthTys (ts.take k)) ∧ d ≤ 2000000 ∧ Below w0.heap.size w0 wr) (fun _ i _ => ts.length - (intOf i).toNat)
  case atStart => exact ⟨0, 0, Nat.zero_le _, rfl, rfl, Lib.hid (by simp [depthTys]), by omega, Below.refl _ _⟩
  case round =>
    obtain ⟨k, d, hk, rfl, rfl, hd, hdl, hb⟩ := hrel
    have p1 := p0.below hb hpl
    have c2 : wr.cell? ⟨w.heap.size, 2, none⟩ = some (.slice A ts.length ac) := p1.cell 2
    by_cases hlt : k < ts.length
    · obtain ⟨b, off, L1, lc1, A1, ac1, rfl, hbl, q0, q1, q2, _, _, _, _, ht⟩ := (ha0.below hb).elem k hlt
      have hst := Lib.hid (depthTys_take ts k hlt)
      have hle := sizeTys_le ts (k + 1)
      have hst2 := Lib.hid (sizeTys_take ts k hlt)
      have hb3 : sizeTy ts[k] ≤ 2000000 := by have := hst2.out; omega
      have hb4 := depth_le_size ts[k]
      have HT := Lib.hid (HALL.out k hlt _ wr (ht.more hb.size) hb3)
      clear ht p1
      go_wp2_with fail
      refine HT.out.mono ?_
      rintro e w1 ⟨rfl, hb1⟩
      go_wp2_with fail
      refine (l1Max_any (d : Int) (depthTy ts[k] : Int) w1).mono ?_
      rintro e w2 ⟨rfl, rfl⟩
      rw [show max (d : Int) (depthTy ts[k] : Int) = ((max d (depthTy ts[k]) : Nat) : Int) by omega]
      go_wp2
      go_roundw
      case rel => exact ⟨k + 1, max d (depthTy ts[k]), by omega, by go_num, rfl, Lib.hid (by rw [hst.out, hd.out]), by omega, hb.trans (hb1.mono hb.size)⟩
      case measure => simp [intOf]; omega
    · have hke : k = ts.length := by omega
      subst hke
      rw [List.take_length] at hd
      go_wp2
      go_ret
      exact ⟨by rw [hse.out, ← hd.out]; rfl, hb0.trans (hb.mono hb0.size)⟩

theorem specDepthOf_any (t : Ty) : DepthOne 58 t := by
  induction t using Ty.ind with
  | h k ls ts ih => exact specDepthOf_of k ls ts ih

def LeftOne (f : Nat) (t : Ty) : Prop := ∀ (v : Value) (left : Int) (w : World), TyAt w w.heap.size v t → 0 ≤ left → left ≤ 1000000 → Calls Tryd.prog f #[v, .int .i64 left] w (IntBelow (leftOf left (sizeTy t)) w)

theorem leftOf_step (left : Int) (a b : Nat) (h : 0 ≤ leftOf left a) : leftOf (leftOf left a) b = leftOf left (a + b) := by
  unfold leftOf at *
  by_cases h1 : left - (a : Int) < 0
  · rw [if_pos h1] at h
    omega
  · rw [if_neg h1] at h ⊢
    by_cases h2 : left - (a : Int) - (b : Int) < 0
    · rw [if_pos h2, if_pos (by omega)]
    · rw [if_neg h2, if_neg (by omega)]
      omega
theorem leftOf_neg (left : Int) (a b : Nat) (h : leftOf left a = -1) (hab : a ≤ b) : leftOf left b = -1 := by
  unfold leftOf at *
  by_cases h1 : left - (a : Int) < 0
  · rw [if_pos (by omega)]
  · rw [if_neg h1] at h
    omega
theorem leftOf_le (left : Int) (a : Nat) (h : 0 ≤ left) : leftOf left a ≤ left := by
  unfold leftOf
  split <;> omega

set_option maxHeartbeats 1000000 in
theorem specLeft_of (k0 : Int) (ls : List ByteArray) (ts : List Ty) (hall : ∀ i, (h : i < ts.length) → LeftOne 57 ts[i]) : LeftOne 57 (.mk k0 ls ts) := by
  intro v left w hv h0 h1
  have hse := Lib.hid (sizeTy_eq (.mk k0 ls ts))
  obtain ⟨L, lc, A, ac, rfl, _, _, _, ha⟩ := hv.open
  simp only [Ty.kind, Ty.labels, Ty.args] at *
  have hm := ha.1
  unfold maxLen at hm
  have HALL := Lib.hid hall
  clear hall hv
  obtain ⟨hb0, p0, hs0⟩ := boxes1 w 35 #[.int .i64 k0, .slice L ls.length lc, .slice A ts.length ac]
  have ha0 := ha.up hb0
  have HZ := Lib.hid hs0
  clear ha hs0
  go_enter Tryd.func57, Tryd.ntmps57
  go_wp2
  generalize w.alloc (.cells #[.int .i64 k0, .slice L ls.length lc, .slice A ts.length ac] 35) = w0 at *
  have hpl := p0.lt
  go_loopw [1, 5] (fun n i wr => ∃ (k : Nat) (x : Int), k ≤ ts.length ∧ i = .int .i64 k ∧ n = .int .i64 x ∧ Hid (x = leftOf left (1 + sizeTys (ts.take k))) ∧ x ≤ 1000000 ∧ -1 ≤ x ∧ Below w0.heap.size w0 wr) (fun _ i _ => ts.length - (intOf i).toNat)
  case atStart => exact ⟨0, left - 1, Nat.zero_le _, rfl, rfl, Lib.hid (by simp only [List.take_zero, sizeTys, leftOf]; split <;> omega), by omega, by omega, Below.refl _ _⟩
  case round =>
    obtain ⟨k, x, hk, rfl, rfl, hx, hxl, hxm, hb⟩ := hrel
    have p1 := p0.below hb hpl
    have c2 : wr.cell? ⟨w.heap.size, 2, none⟩ = some (.slice A ts.length ac) := p1.cell 2
    by_cases hlt : k < ts.length
    · by_cases hx0 : 0 ≤ x
      · obtain ⟨b, off, L1, lc1, A1, ac1, rfl, hbl, q0, q1, q2, _, _, _, _, ht⟩ := (ha0.below hb).elem k hlt
        have hst2 := Lib.hid (sizeTys_take ts k hlt)
        have hdx : decide ((0 : Int) ≤ x) = true := by simp; omega
        have hlk : decide ((k : Int) < (ts.length : Int)) = true := by simp; omega
        have HT := Lib.hid (HALL.out k hlt _ x wr (ht.more hb.size) hx0 hxl)
        have hle := leftOf_le x (sizeTy ts[k]) hx0
        have hcs := leftOf_cases x (sizeTy ts[k])
        have hnx : Hid (leftOf x (sizeTy ts[k]) = leftOf left (1 + sizeTys (ts.take (k + 1)))) := Lib.hid (by
          have hxe := hx.out
          rw [hst2.out, hxe, leftOf_step _ _ _ (by rw [← hxe]; exact hx0), Nat.add_assoc])
        clear ht p1
        go_wp2_with fail
        refine HT.out.mono ?_
        rintro e w1 ⟨rfl, hb1⟩
        generalize leftOf x (sizeTy ts[k]) = y at *
        go_wp2
        go_roundw
        case rel => exact ⟨k + 1, y, by omega, by go_num, rfl, hnx, by omega, by omega, hb.trans (hb1.mono hb.size)⟩
        case measure => simp [intOf]; omega
      · have hxe : x = -1 := by omega
        have hr := Lib.hid (show leftOf left (sizeTy (.mk k0 ls ts)) = -1 by
          rw [hse.out]
          have := hx.out
          exact leftOf_neg _ _ _ (by rw [← this]; exact hxe) (by have := sizeTys_le ts k; omega))
        subst hxe
        clear hx0
        go_wp2
        go_ret
        exact ⟨by rw [hr.out]; rfl, hb0.trans (hb.mono hb0.size)⟩
    · have hke : k = ts.length := by omega
      subst hke
      rw [List.take_length] at hx
      go_wp2
      go_ret
      exact ⟨by rw [hse.out, ← hx.out]; rfl, hb0.trans (hb.mono hb0.size)⟩

theorem specLeft_any (t : Ty) : LeftOne 57 t := by
  induction t using Ty.ind with
  | h k ls ts ih => exact specLeft_of k ls ts ih

end Go.Proofs.YtceclhndagoddaaDoor
end

section
namespace Go.Proofs.YtceclhndagoddaaDoor
open Go.RowKit

/-- May the byte c stand at place k of a name? -/
def nameAt (k : Nat) (c : UInt8) : Bool := (decide (97 ≤ c.toNat) && decide (c.toNat ≤ 122)) || (decide (0 < k) && decide (48 ≤ c.toNat) && decide (c.toNat ≤ 57))
/-- Is it a name? -/
def isNameB (s : ByteArray) : Bool := (List.range s.size).all (fun k => nameAt k (s.data.getD k 0)) && decide (1 ≤ s.size) && decide (s.size ≤ 4)

theorem isNameB_no (s : ByteArray) (k : Nat) (h : k < s.size) (hn : nameAt k (s.data.getD k 0) = false) : isNameB s = false := by
  unfold isNameB
  have : (List.range s.size).all (fun k => nameAt k (s.data.getD k 0)) = false := by
    rw [List.all_eq_false]
    exact ⟨k, List.mem_range.2 h, by rw [hn]; simp⟩
  rw [this]
  rfl
theorem isNameB_all (s : ByteArray) (h : ∀ k, k < s.size → nameAt k (s.data.getD k 0) = true) : isNameB s = (decide (1 ≤ s.size) && decide (s.size ≤ 4)) := by
  unfold isNameB
  have : (List.range s.size).all (fun k => nameAt k (s.data.getD k 0)) = true := by
    rw [List.all_eq_true]
    exact fun k hk => h k (List.mem_range.1 hk)
  rw [this]
  rfl

set_option maxHeartbeats 1000000 in
theorem specIsName_any (s : ByteArray) (w : World) (hs : s.size ≤ maxLen) :
    Calls Tryd.prog 98 #[.string s] w fun e w' => e = .returned (.bool (isNameB s)) ∧ w = w' := by
  unfold maxLen at hs
  go_enter Tryd.func98, Tryd.ntmps98
  go_wp2
  go_loop [3] (fun i => ∃ k : Nat, k ≤ s.size ∧ i = .int .i64 k ∧ ∀ j, j < k → nameAt j (s.data.getD j 0) = true) (fun i => s.size - (intOf i).toNat)
  case atStart => exact ⟨0, Nat.zero_le _, rfl, fun j h => absurd h (by omega)⟩
  case round =>
    obtain ⟨k, hk, rfl, hall⟩ := hrel
    have HA := Lib.hid hall
    clear hall
    by_cases hlt : k < s.size
    · have hltI : (k : Int) < (s.size : Int) := by omega
      have hget := Lib.hid (show s.data.getD k 0 = s[k] by
        rw [Array.getD_eq_getD_getElem?, Array.getElem?_eq_getElem hlt]; rfl)
      by_cases h97 : 97 ≤ s[k].toNat
      · by_cases h122 : s[k].toNat ≤ 122
        · have i1 : (97 : Int) ≤ s[k].toNat := by omega
          have i2 : (s[k].toNat : Int) ≤ 122 := by omega
          go_wp2
          go_round
          case rel =>
            refine ⟨k + 1, by omega, by go_num, fun j hj => ?_⟩
            by_cases e : j = k
            · subst e
              rw [hget.out]
              simp [nameAt, h97, h122]
            · exact HA.out j (by omega)
          case measure => simp [intOf]; omega
        · have i1 : (97 : Int) ≤ s[k].toNat := by omega
          have i2 : ¬ (s[k].toNat : Int) ≤ 122 := by omega
          have i3 : ¬ (s[k].toNat : Int) < 48 := by omega
          have i4 : (57 : Int) < s[k].toNat := by omega
          have hno := Lib.hid (isNameB_no s k hlt (by rw [hget.out]; simp [nameAt, h122, show ¬ s[k].toNat ≤ 57 by omega]))
          go_wp2
          all_goals
            go_ret
            refine ⟨?_, rfl⟩
            rw [hno.out]
            rfl
      · by_cases hk0 : 0 < k
        · by_cases h48 : s[k].toNat < 48
          · have i1 : ¬ (97 : Int) ≤ s[k].toNat := by omega
            have i0 : ((k : Int) == 0) = false := by rw [beq_eq_false_iff_ne]; omega
            have i3 : (s[k].toNat : Int) < 48 := by omega
            have hno := Lib.hid (isNameB_no s k hlt (by rw [hget.out]; simp [nameAt, h97, show ¬ 48 ≤ s[k].toNat by omega]))
            go_wp2
            all_goals
              go_ret
              refine ⟨?_, rfl⟩
              rw [hno.out]
              rfl
          · by_cases h57 : s[k].toNat ≤ 57
            · have i1 : ¬ (97 : Int) ≤ s[k].toNat := by omega
              have i0 : ((k : Int) == 0) = false := by rw [beq_eq_false_iff_ne]; omega
              have i3 : ¬ (s[k].toNat : Int) < 48 := by omega
              have i4 : ¬ (57 : Int) < s[k].toNat := by omega
              go_wp2
              go_round
              case rel =>
                refine ⟨k + 1, by omega, by go_num, fun j hj => ?_⟩
                by_cases e : j = k
                · subst e
                  rw [hget.out]
                  simp [nameAt, hk0, h57, show 48 ≤ s[j].toNat by omega]
                · exact HA.out j (by omega)
              case measure => simp [intOf]; omega
            · have i1 : ¬ (97 : Int) ≤ s[k].toNat := by omega
              have i0 : ((k : Int) == 0) = false := by rw [beq_eq_false_iff_ne]; omega
              have i3 : ¬ (s[k].toNat : Int) < 48 := by omega
              have i4 : (57 : Int) < s[k].toNat := by omega
              have hno := Lib.hid (isNameB_no s k hlt (by rw [hget.out]; simp [nameAt, h97, h57]))
              go_wp2
              all_goals
                go_ret
                refine ⟨?_, rfl⟩
                rw [hno.out]
                rfl
        · have i1 : ¬ (97 : Int) ≤ s[k].toNat := by omega
          have i0 : ((k : Int) == 0) = true := by rw [beq_iff_eq]; omega
          have hno := Lib.hid (isNameB_no s k hlt (by rw [hget.out]; simp [nameAt, h97, hk0]))
          go_wp2
          all_goals
            go_ret
            refine ⟨?_, rfl⟩
            rw [hno.out]
            rfl
    · have hltI : ¬ (k : Int) < (s.size : Int) := by omega
      have hke : k = s.size := by omega
      have hB := Lib.hid (isNameB_all s (fun j hj => HA.out j (by omega)))
      clear hke
      by_cases h1 : 1 ≤ s.size
      · by_cases h4 : s.size ≤ 4
        · have i1 : (1 : Int) ≤ s.size := by omega
          have i4 : (s.size : Int) ≤ 4 := by omega
          go_wp2
          go_ret
          refine ⟨?_, rfl⟩
          rw [hB.out]
          simp [h1, h4]
        · have i1 : (1 : Int) ≤ s.size := by omega
          have i4 : ¬ (s.size : Int) ≤ 4 := by omega
          go_wp2
          go_ret
          refine ⟨?_, rfl⟩
          rw [hB.out]
          simp [h4]
      · have i1 : ¬ (1 : Int) ≤ s.size := by omega
        go_wp2
        go_ret
        refine ⟨?_, rfl⟩
        rw [hB.out]
        simp [h1]

end Go.Proofs.YtceclhndagoddaaDoor

namespace Go.Proofs.YtceclhndagoddaaDoor
open Go.RowKit

/-- The first place of s. -/
def idxOf (ss : List ByteArray) (s : ByteArray) : Int :=
  match (List.range ss.length).find? (fun k => (ss.getD k ⟨#[]⟩).data.toList == s.data.toList) with
  | some k => (k : Int)
  | none => -1
theorem idxOf_at (ss : List ByteArray) (s : ByteArray) (k : Nat) (h : k < ss.length) (he : ss[k].data.toList = s.data.toList) (hn : ∀ j, (hj : j < ss.length) → j < k → ss[j].data.toList ≠ s.data.toList) : idxOf ss s = k := by
  unfold idxOf
  have : (List.range ss.length).find? (fun k => (ss.getD k ⟨#[]⟩).data.toList == s.data.toList) = some k := by
    rw [List.find?_range_eq_some]
    refine ⟨?_, List.mem_range.2 h, fun j hj => ?_⟩
    · simp [h, he]
    · have hl : j < ss.length := by omega
      simp [hl]
      exact fun e => hn j hl hj (by rw [e])
  rw [this]
theorem idxOf_none (ss : List ByteArray) (s : ByteArray) (hn : ∀ j, (hj : j < ss.length) → ss[j].data.toList ≠ s.data.toList) : idxOf ss s = -1 := by
  unfold idxOf
  have : (List.range ss.length).find? (fun k => (ss.getD k ⟨#[]⟩).data.toList == s.data.toList) = none := by
    rw [List.find?_eq_none]
    intro j hj
    have hl := List.mem_range.1 hj
    simp [hl]
    exact fun e => hn j hl (by rw [e])
  rw [this]

set_option maxHeartbeats 1000000 in
theorem specIndexOf_any (A : Option Addr) (c B : Nat) (ss : List ByteArray) (s : ByteArray) (w : World) (hA : StrsAt w B A ss) (hn : ss.length ≤ maxLen) :
    Calls Tryd.prog 96 #[.slice A ss.length c, .string s] w fun e w' => e = .returned (.int .i64 (idxOf ss s)) ∧ w = w' := by
  unfold maxLen at hn
  go_enter Tryd.func96, Tryd.ntmps96
  go_wp2
  go_loop [5] (fun i => ∃ k : Nat, k ≤ ss.length ∧ i = .int .i64 k ∧ ∀ j, (hj : j < ss.length) → j < k → ss[j].data.toList ≠ s.data.toList) (fun i => ss.length - (intOf i).toNat)
  case atStart => exact ⟨0, Nat.zero_le _, rfl, fun j _ h => absurd h (by omega)⟩
  case round =>
    obtain ⟨k, hk, rfl, hall⟩ := hrel
    have HA := Lib.hid hall
    clear hall
    by_cases hlt : k < ss.length
    · have hltI : (k : Int) < (ss.length : Int) := by omega
      obtain ⟨b, off, rfl, _, hcell⟩ := hA k hlt
      by_cases he : ss[k].data.toList = s.data.toList
      · have hd := Lib.hid (idxOf_at ss s k hlt he HA.out)
        have hq : (ss[k].toList == s.toList) = true := by rw [beq_iff_eq, ByteArray.toList_eq, ByteArray.toList_eq]; exact he
        clear he
        go_wp2
        go_ret
        exact ⟨by rw [hd.out]; rfl, rfl⟩
      · have hq : (ss[k].toList == s.toList) = false := by rw [beq_eq_false_iff_ne, ByteArray.toList_eq, ByteArray.toList_eq]; exact he
        have HE := Lib.hid he
        clear he
        go_wp2
        go_round
        case rel =>
          refine ⟨k + 1, by omega, by go_num, fun j hj h => ?_⟩
          by_cases e : j = k
          · subst e
            exact HE.out
          · exact HA.out j hj (by omega)
        case measure => simp [intOf]; omega
    · have hltI : ¬ (k : Int) < (ss.length : Int) := by omega
      have hd := Lib.hid (idxOf_none ss s (fun j hj => HA.out j hj (by omega)))
      go_wp2
      go_ret
      exact ⟨by rw [hd.out]; rfl, rfl⟩

/-- s before t, byte by byte. -/
def lessB (s t : ByteArray) : Bool := Op.bytesLess s.data.toList t.data.toList
/-- Each before the next. -/
def ascB (ss : List ByteArray) : Bool := (List.range (ss.length - 1)).all fun k => lessB (ss.getD k ⟨#[]⟩) (ss.getD (k + 1) ⟨#[]⟩)
theorem ascB_no (ss : List ByteArray) (k : Nat) (h1 : 1 ≤ k) (h : k < ss.length) (hn : lessB (ss[k - 1]'(by omega)) ss[k] = false) : ascB ss = false := by
  unfold ascB
  rw [List.all_eq_false]
  refine ⟨k - 1, List.mem_range.2 (by omega), ?_⟩
  have e : k - 1 + 1 = k := by omega
  rw [e]
  simp [h, show k - 1 < ss.length by omega, hn]
theorem ascB_yes (ss : List ByteArray) (h : ∀ k, (hk : k < ss.length) → 1 ≤ k → lessB (ss[k - 1]'(by omega)) ss[k] = true) : ascB ss = true := by
  unfold ascB
  rw [List.all_eq_true]
  intro k hk
  have hl := List.mem_range.1 hk
  have := h (k + 1) (by omega) (by omega)
  simp only [Nat.add_sub_cancel] at this
  simp [show k < ss.length by omega, show k + 1 < ss.length by omega, this]

/-- A bool is handed back; the world only drew. -/
def BoolDrew (b : Bool) (w : World) (e : Ending) (w' : World) : Prop := e = .returned (.bool b) ∧ ∃ n, w' = w.drewN n

set_option maxHeartbeats 1000000 in
theorem specAreAscending_any (A : Option Addr) (c B : Nat) (ss : List ByteArray) (w : World) (hA : StrsAt w B A ss) (hn : ss.length < maxLen) :
    Calls Tryd.prog 126 #[.slice A ss.length c] w (BoolDrew (ascB ss) w) := by
  unfold maxLen at hn
  go_enter Tryd.func126, Tryd.ntmps126
  go_wp2
  go_loopw [3] (fun i wr => ∃ k : Nat, k ≤ ss.length + 1 ∧ 1 ≤ k ∧ i = .int .i64 k ∧ (∀ j, (hj : j < ss.length) → 1 ≤ j → j < k → lessB (ss[j - 1]'(by omega)) ss[j] = true) ∧ ∃ n, wr = w.drewN n) (fun i _ => ss.length - (intOf i).toNat)
  case atStart => exact ⟨1, by omega, by omega, rfl, fun j _ h1 h2 => absurd h2 (by omega), 0, rfl⟩
  case round =>
    obtain ⟨k, hk, hk1, rfl, hall, n, rfl⟩ := hrel
    have HA := Lib.hid hall
    clear hall
    by_cases hlt : k < ss.length
    · have hltI : (k : Int) < (ss.length : Int) := by omega
      obtain ⟨b, off, rfl, _, hcell⟩ := hA k hlt
      obtain ⟨b', off', e', _, hcell'⟩ := hA (k - 1) (by omega)
      cases e'
      cases hles : lessB (ss[k - 1]'(by omega)) ss[k]
      · have hd := Lib.hid (ascB_no ss k hk1 hlt hles)
        have hq : (!Op.bytesLess (ss[k - 1]'(by omega)).toList ss[k].toList) = true := by
          rw [ByteArray.toList_eq, ByteArray.toList_eq, show Op.bytesLess _ _ = false from hles]
          rfl
        clear hles
        go_wp2
        go_quiet (fail)
        go_wp2
        go_ret
        exact ⟨by rw [hd.out]; rfl, _, World.drewN_drewN _ _ _⟩
      · have hq : (!Op.bytesLess (ss[k - 1]'(by omega)).toList ss[k].toList) = false := by
          rw [ByteArray.toList_eq, ByteArray.toList_eq, show Op.bytesLess _ _ = true from hles]
          rfl
        have HE := Lib.hid hles
        clear hles
        go_wp2
        go_quiet (fail)
        go_wp2
        go_roundw
        case rel =>
          refine ⟨k + 1, by omega, by omega, by go_num, fun j hj h1 h2 => ?_, _, rfl⟩
          by_cases e : j = k
          · subst e
            exact HE.out
          · exact HA.out j hj h1 (by omega)
        case measure => simp [intOf]; omega
    · have hltI : ¬ (k : Int) < (ss.length : Int) := by omega
      have hd := Lib.hid (ascB_yes ss (fun j hj h1 => HA.out j hj h1 (by omega)))
      go_wp2
      go_ret
      exact ⟨by rw [hd.out]; rfl, n, rfl⟩

end Go.Proofs.YtceclhndagoddaaDoor
end
