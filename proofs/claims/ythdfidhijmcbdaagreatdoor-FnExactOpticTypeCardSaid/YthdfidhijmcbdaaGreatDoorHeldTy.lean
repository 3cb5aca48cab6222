/- laws.markType, laws.heldType at every tree. -/
import Derived.Test.YthdfidhijmcbdaaGreatDoorMarkTy
import Derived.Test.YthdfidhijmcbdaaGreatDoorEqTy
namespace Go.Proofs.YthdfidhijmcbdaaGreatDoor
open Go.RowKit

theorem markMany_any (t : Ty) : MarkMany t.args := by
  induction t using Ty.ind with
  | h k ls ts ih => exact markTypeS_of ts ih

/-- A tree is marked. -/
def MarkedTy (w : World) (S : Nat → Prop) (v : Value) (k : Nat) (t : Ty) (e : Ending) (w' : World) : Prop :=
  e = .returned (.int .i64 ((k + cntTy t : Nat) : Int)) ∧ TyIn w' S v (markTy t k) ∧ OnlyIn S w w'

set_option maxHeartbeats 1000000 in
theorem markType_any (t : Ty) (S : Nat → Prop) (v : Value) (k : Nat) (w : World) (hv : TyIn w S v t) (h0 : 0 < k) (h1 : k + cntTy t ≤ 2 ^ 62) (hS : ∀ b, S b → b < w.heap.size) :
    Calls Tryz.prog 24 #[v, .int .i64 k] w (MarkedTy w S v k t) := by
  have hc := Lib.hid (cntTy_eq t)
  have hq1 : k + t.labels.length + cntTys t.args ≤ 2 ^ 62 := by have := hc.out; omega
  obtain ⟨L, lc, A, ac, gl, rfl, hn, hz, hl, ha⟩ := hv.open
  obtain ⟨hb0, p0, hs0⟩ := boxes1 w 27 #[.int .i64 t.kind, .slice L t.labels.length lc, .slice A t.args.length ac]
  have hk0 : ∀ b, b < w.heap.size → (w.alloc (.cells #[.int .i64 t.kind, .slice L t.labels.length lc, .slice A t.args.length ac] 27)).heap[b]? = w.heap[b]? := fun b hb => hb0.block b hb
  have HS := Lib.hid hS
  have HL := Lib.hid hl
  have HA := Lib.hid ha
  clear hz hl ha hv hS
  go_enter Tryz.func24, Tryz.ntmps24
  go_wp2_with fail
  generalize w.alloc (.cells #[.int .i64 t.kind, .slice L t.labels.length lc, .slice A t.args.length ac] 27) = w0 at *
  have HZ := Lib.hid hs0
  have HK := Lib.hid hk0
  clear hs0 hk0
  refine (markLabels L lc k gl t.labels w0 (HL.out.imp id fun ⟨h1, h2, h3⟩ => ⟨h1, h3.same (HK.out gl h3.lt)⟩) h0 (by omega)).mono ?_
  rintro e w1 ⟨rfl, hl1, ho1⟩
  have hs1 := ho1.size
  have hgl : ¬ (w.heap.size = gl ∧ t.labels ≠ []) := fun ⟨h1, h2⟩ => by
    rcases HL.out with h | ⟨_, h, h'⟩
    · exact h2 h
    · have := HS.out gl h
      omega
  have p1 : Whole1 w1 w.heap.size 27 #[.int .i64 t.kind, .slice L t.labels.length lc, .slice A t.args.length ac] := (ho1.block _ p0.lt hgl).trans p0
  have c1 : w1.cell? ⟨w.heap.size, 2, none⟩ = some (.slice A t.args.length ac) := p1.cell 2
  have ha1 := Lib.hid ((HA.out.keep (fun b _ hb => HK.out b hb)).keep (fun b hb hlt => ho1.block b hlt fun h => hb.2 h.1))
  clear p0 p1
  go_wp2_with fail
  refine (markMany_any t _ A ac (k + t.labels.length) w1 ha1.out (by omega) (by omega)).mono ?_
  rintro e w2 ⟨rfl, ht2, ho2⟩
  have HT := Lib.hid ht2
  have hfin : Hid (TyIn w2 S (.agg #[.int .i64 t.kind, .slice L t.labels.length lc, .slice A t.args.length ac]) (markTy t k)) := Lib.hid (markIn k hn (by omega) (by
      rcases hl1 with h | h
      · exact .inl h
      · rcases HL.out with h5 | ⟨h5, h6, _⟩
        · exact .inl h5
        · exact .inr ⟨h5, h6, h.same (ho2.block gl h.lt fun h => h.2 rfl)⟩) HT.out (fun b hb => hb))
  have hO : OnlyIn S w w2 := (OnlyIn.of_below hb0).trans ((ho1.wide fun b hb => by
    rcases HL.out with h5 | ⟨_, h6, _⟩
    · exact absurd h5 hb.2
    · rw [hb.1]; exact h6).trans (ho2.wide fun b hb => hb.1))
  clear ht2 hl1
  go_wp2
  go_ret
  exact ⟨by rw [hc.out, ← Nat.add_assoc]; rfl, hfin.out, hO⟩

set_option maxHeartbeats 400000 in
theorem heldLabels (A : Option Addr) (c k n : Nat) (w : World) (hA : StrsAt w w.heap.size A (marks k n)) (h0 : 0 < k) (h1 : k + n ≤ 2 ^ 62) :
    Calls Tryz.prog 57 #[.slice A n c, .int .i64 k] w (HeldTo w (k + n)) := by
  go_enter Tryz.func57, Tryz.ntmps57
  go_wp2
  go_loopw [1, 5] (fun m i wr => ∃ j : Nat, j ≤ n ∧ i = .int .i64 j ∧ m = .int .i64 ((k + j : Nat) : Int) ∧ Below w.heap.size w wr) (fun _ i _ => n - (intOf i).toNat)
  case atStart => exact ⟨0, Nat.zero_le _, rfl, rfl, Below.refl _ _⟩
  case round =>
    obtain ⟨j, hj, rfl, rfl, hb⟩ := hrel
    by_cases hlt : j < n
    · obtain ⟨g, off, rfl, hgl0, hc0⟩ := (hA.below hb) j (by rw [marks_len]; exact hlt)
      have hc : wr.cell? ⟨g, off + j, none⟩ = some (.string (markB (k + j))) := by
        rw [hc0]
        simp [marks]
      have hgl : g < wr.heap.size := by have := hb.size; omega
      clear hc0 hA
      go_wp2
      go_region_held3 (fun w' => w'.cell? ⟨g, off + j, none⟩ = some (.string (markB (k + j))) ∧ Below wr.heap.size wr w') ((first | exact ⟨hc, (Below.refl _ _).drew⟩ | exact ⟨hk1, hk2⟩))
        (first | (go_at_call 85; refine (markText_any (k + j) _ (by omega) (by omega)).mono ?_; rintro e w' ⟨rfl, hb1⟩; have hk2 := (Below.refl wr.heap.size wr).drew.trans hb1; have hk1 := (hk2.cell (p := ⟨g, off + j, none⟩) hgl).trans hc))
      go_wp2
      go_roundw
      case rel => exact ⟨j + 1, by omega, by go_num, by go_num, hb.trans (hk2.mono hb.size)⟩
      case measure => simp [intOf]; omega
    · have hje : j = n := by omega
      subst hje
      go_wp2
      go_ret
      exact ⟨rfl, hb⟩

def HeldMany (ts : List Ty) : Prop := ∀ (A : Option Addr) (c k : Nat) (w : World), TysAt w w.heap.size A (markTys ts k) → 0 < k → k + cntTys ts ≤ 2 ^ 62 → Calls Tryz.prog 58 #[.slice A ts.length c, .int .i64 k] w (HeldTo w (k + cntTys ts))

theorem marked_elem {w : World} {B k : Nat} {A : Option Addr} {ts : List Ty} (h : TysAt w B A (markTys ts k)) (i : Nat) (hi : i < ts.length) :
    ∃ b off L lc A' ac, A = some ⟨b, off, none⟩ ∧ b < B ∧ w.cell? ⟨b, off + i * 3, none⟩ = some (.int .i64 ((k + cntTys (ts.take i) : Nat) : Int)) ∧ w.cell? ⟨b, off + i * 3 + 1, none⟩ = some (.slice L ts[i].labels.length lc) ∧
      w.cell? ⟨b, off + i * 3 + 2, none⟩ = some (.slice A' ts[i].args.length ac) ∧ StrsAt w B L (marks (k + cntTys (ts.take i) + 1) ts[i].labels.length) ∧ TysAt w B A' (markTys ts[i].args (k + cntTys (ts.take i) + 1 + ts[i].labels.length)) := by
  have hl := markTys_len ts k
  have hi' : i < (markTys ts k).length := by omega
  obtain ⟨b, off, L, lc, A', ac, h1, h2, h3, h4, h5, _, _, h6, h7, _⟩ := h.elem i hi'
  have hg := markTys_get ts k i hi
  rw [List.getElem?_eq_getElem hi'] at hg
  have hg' := Option.some.inj hg
  rw [hg'] at h3 h4 h5 h6 h7
  refine ⟨b, off, L, lc, A', ac, h1, h2, ?_, ?_, ?_, ?_, ?_⟩
  · revert h3; cases ts[i]; rw [markTy]; exact id
  · revert h4; cases ts[i]; rw [markTy]; simp only [setKind, Ty.labels, marks_len]; exact id
  · revert h5; cases ts[i]; rw [markTy]; simp only [setKind, Ty.args, markTys_len]; exact id
  · revert h6; cases ts[i]; rw [markTy]; exact id
  · revert h7; cases ts[i]; rw [markTy]; exact id

set_option maxHeartbeats 1000000 in
theorem heldTypeS_of (ts : List Ty) (hall : ∀ i, (h : i < ts.length) → HeldMany ts[i].args) : HeldMany ts := by
  intro A c k w hA h0 h1
  have HALL := Lib.hid hall
  clear hall
  have hm := hA.1
  rw [markTys_len] at hm
  unfold maxLen at hm
  go_enter Tryz.func58, Tryz.ntmps58
  go_wp2
  go_loopw [1, 5] (fun m i wr => ∃ j q : Nat, j ≤ ts.length ∧ i = .int .i64 j ∧ m = .int .i64 (q : Int) ∧ Hid (q = k + cntTys (ts.take j)) ∧ Below w.heap.size w wr) (fun _ i _ => ts.length - (intOf i).toNat)
  case atStart => exact ⟨0, k, Nat.zero_le _, rfl, rfl, Lib.hid (by simp [cntTys]), Below.refl _ _⟩
  case round =>
    obtain ⟨j, q, hj, rfl, rfl, hq, hb⟩ := hrel
    by_cases hlt : j < ts.length
    · have hc1 := Lib.hid (cntTys_take ts j hlt)
      have hc2 := cntTys_le ts (j + 1)
      have hc4 := Lib.hid (cntTy_eq ts[j])
      have hq1 : q + 1 + ts[j].labels.length + cntTys ts[j].args ≤ 2 ^ 62 := by have := hc1.out; have := hc4.out; have := hq.out; omega
      obtain ⟨b, off, L, lc, A', ac, rfl, hbl, q0, q1, q2, hl, ha⟩ := marked_elem (hA.below hb) j hlt
      rw [← hq.out] at q0 hl ha
      have hbs := hb.size
      have hbl' : b < wr.heap.size := by omega
      have hne : ((q : Int) != (q : Int)) = false := by simp
      go_wp2_with fail
      refine (heldLabels L lc (q + 1) ts[j].labels.length wr (hl.more hbs) (by omega) (by omega)).mono ?_
      rintro e w1 ⟨rfl, hb1⟩
      have q2' := (hb1.cell (p := ⟨b, off + j * 3 + 2, none⟩) hbl').trans q2
      have hb1' := hb.trans (hb1.mono hbs)
      have HT := Lib.hid (HALL.out j hlt A' ac (q + 1 + ts[j].labels.length) w1 ((ha.more hbs).up hb1) (by omega) (by omega))
      clear q0 q1 q2 hne
      go_wp2_with fail
      refine HT.out.mono ?_
      rintro e w2 ⟨rfl, hb2⟩
      go_wp2
      go_roundw
      case rel => exact ⟨j + 1, q + 1 + ts[j].labels.length + cntTys ts[j].args, by omega, by go_num, rfl, Lib.hid (by have := hc1.out; have := hc4.out; have := hq.out; omega), hb1'.trans (hb2.mono hb1'.size)⟩
      case measure => simp [intOf]; omega
    · have hje : j = ts.length := by omega
      subst hje
      rw [List.take_length] at hq
      go_wp2
      go_ret
      exact ⟨by rw [hq.out]; rfl, hb⟩

theorem heldMany_any (t : Ty) : HeldMany t.args := by
  induction t using Ty.ind with
  | h k ls ts ih => exact heldTypeS_of ts ih

set_option maxHeartbeats 1000000 in
theorem heldType_any (t : Ty) (v : Value) (k : Nat) (w : World) (hv : TyAt w w.heap.size v (markTy t k)) (h0 : 0 < k) (h1 : k + cntTy t ≤ 2 ^ 62) :
    Calls Tryz.prog 26 #[v, .int .i64 k] w (HeldTo w (k + cntTy t)) := by
  have hc := Lib.hid (cntTy_eq t)
  have hq1 : k + t.labels.length + cntTys t.args ≤ 2 ^ 62 := by have := hc.out; omega
  have hv' : ∃ L lc A ac, v = .agg #[.int .i64 t.kind, .slice L t.labels.length lc, .slice A t.args.length ac] ∧ StrsAt w w.heap.size L (marks k t.labels.length) ∧ TysAt w w.heap.size A (markTys t.args (k + t.labels.length)) := by
    obtain ⟨L, lc, A, ac, e, _, _, h3, h4⟩ := hv.open
    refine ⟨L, lc, A, ac, ?_, ?_, ?_⟩
    · rw [e]; cases t; rw [markTy]; simp only [Ty.labels, Ty.args, Ty.kind, marks_len, markTys_len]
    · revert h3; cases t; rw [markTy]; exact id
    · revert h4; cases t; rw [markTy]; exact id
  obtain ⟨L, lc, A, ac, rfl, hl, ha⟩ := hv'
  obtain ⟨hb0, p0, hs0⟩ := boxes1 w 27 #[.int .i64 t.kind, .slice L t.labels.length lc, .slice A t.args.length ac]
  have HZ := Lib.hid hs0
  clear hv hs0
  go_enter Tryz.func26, Tryz.ntmps26
  go_wp2_with fail
  generalize w.alloc (.cells #[.int .i64 t.kind, .slice L t.labels.length lc, .slice A t.args.length ac] 27) = w0 at *
  refine (heldLabels L lc k t.labels.length w0 (hl.up' hb0) h0 (by omega)).mono ?_
  rintro e w1 ⟨rfl, hb1⟩
  have p1 := p0.below hb1 p0.lt
  have c1 : w1.cell? ⟨w.heap.size, 2, none⟩ = some (.slice A t.args.length ac) := p1.cell 2
  have hb1' := hb0.trans (hb1.mono hb0.size)
  clear p0 p1
  go_wp2_with fail
  refine (heldMany_any t A ac (k + t.labels.length) w1 (ha.up hb1') (by omega) (by omega)).mono ?_
  rintro e w2 ⟨rfl, hb2⟩
  go_wp2
  go_ret
  exact ⟨by rw [hc.out, ← Nat.add_assoc]; rfl, hb1'.trans (hb2.mono hb1'.size)⟩

end Go.Proofs.YthdfidhijmcbdaaGreatDoor
