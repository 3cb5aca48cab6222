/- laws.markValue, laws.heldValue at every value. -/
import Derived.Test.YtinkanbaiflhdaaMarkVa
import Derived.Test.YtinkanbaiflhdaaHeldTy
import Derived.Test.YtinkanbaiflhdaaEqVa
namespace Go.Proofs.Ytinkanbaiflhdaa
open Go.RowKit

theorem markVMany_any (t : Va) : MarkVMany t.args := by
  induction t using Va.ind with
  | h k n nm ls ts ih => exact markValueS_of ts ih

/-- A tree is marked. -/
def MarkedVa (w : World) (S : Nat → Prop) (v : Value) (k : Nat) (t : Va) (e : Ending) (w' : World) : Prop :=
  e = .returned (.int .i64 ((k + cntVa t : Nat) : Int)) ∧ VaIn w' S v (markVa t k) ∧ OnlyIn S w w'

set_option maxHeartbeats 1000000 in
theorem markValue_any (t : Va) (S : Nat → Prop) (v : Value) (k : Nat) (w : World) (hv : VaIn w S v t) (h0 : 0 < k) (h1 : k + cntVa t ≤ 2 ^ 62) (hS : ∀ b, S b → b < w.heap.size) :
    Calls Try.prog 36 #[v, .int .i64 k] w (MarkedVa w S v k t) := by
  have hc := Lib.hid (cntVa_eq t)
  have hq1 : k + t.labels.length + cntVas t.args ≤ 2 ^ 62 := by have := hc.out; omega
  obtain ⟨L, lc, A, ac, gl, rfl, hnm, hn, hz, hl, ha⟩ := hv.open
  obtain ⟨hb0, p0, hs0⟩ := boxes1 w 51 #[.int .i64 t.kind, .int .i64 t.num, .string t.name, .slice L t.labels.length lc, .slice A t.args.length ac]
  have hk0 : ∀ b, b < w.heap.size → (w.alloc (.cells #[.int .i64 t.kind, .int .i64 t.num, .string t.name, .slice L t.labels.length lc, .slice A t.args.length ac] 51)).heap[b]? = w.heap[b]? := fun b hb => hb0.block b hb
  have HS := Lib.hid hS
  have HL := Lib.hid hl
  have HA := Lib.hid ha
  clear hz hl ha hv hS
  go_enter Try.func36, Try.ntmps36
  go_wp2_with fail
  generalize w.alloc (.cells #[.int .i64 t.kind, .int .i64 t.num, .string t.name, .slice L t.labels.length lc, .slice A t.args.length ac] 51) = w0 at *
  have HZ := Lib.hid hs0
  have HK := Lib.hid hk0
  clear hs0 hk0
  refine (markLabels L lc k gl t.labels w0 (HL.out.imp id fun ⟨h1, h2, h3⟩ => ⟨h1, h3.same (HK.out gl h3.lt)⟩) h0 (by omega)).mono ?_
  rintro e w1 ⟨rfl, hl1, ho1⟩
  have hs1 := ho1.size
  have hgl : ¬ (w.heap.size = gl ∧ t.labels ≠ []) := fun ⟨h1, h2⟩ => by
    rcases HL.out with h | ⟨_, h, h'⟩
    · exact h2 h
    · have := HS.out gl h
      omega
  have p1 : Whole1 w1 w.heap.size 51 #[.int .i64 t.kind, .int .i64 t.num, .string t.name, .slice L t.labels.length lc, .slice A t.args.length ac] := (ho1.block _ p0.lt hgl).trans p0
  have c1 : w1.cell? ⟨w.heap.size, 4, none⟩ = some (.slice A t.args.length ac) := p1.cell 4
  have ha1 := Lib.hid ((HA.out.keep (fun b _ hb => HK.out b hb)).keep (fun b hb hlt => ho1.block b hlt fun h => hb.2 h.1))
  clear p0 p1
  go_wp2_with fail
  refine (markVMany_any t _ A ac (k + t.labels.length) w1 ha1.out (by omega) (by omega)).mono ?_
  rintro e w2 ⟨rfl, ht2, ho2⟩
  have HT := Lib.hid ht2
  have hfin : Hid (VaIn w2 S (.agg #[.int .i64 t.kind, .int .i64 t.num, .string t.name, .slice L t.labels.length lc, .slice A t.args.length ac]) (markVa t k)) := Lib.hid (markVIn k hnm hn (by omega) (by
      rcases hl1 with h | h
      · exact .inl h
      · rcases HL.out with h5 | ⟨h5, h6, _⟩
        · exact .inl h5
        · exact .inr ⟨h5, h6, h.same (ho2.block gl h.lt fun h => h.2 rfl)⟩) HT.out (fun b hb => hb))
  have hO : OnlyIn S w w2 := (OnlyIn.of_below hb0).trans ((ho1.wide fun b hb => by
    rcases HL.out with h5 | ⟨_, h6, _⟩
    · exact absurd h5 hb.2
    · rw [hb.1]; exact h6).trans (ho2.wide fun b hb => hb.1))
  clear ht2 hl1
  go_wp2
  go_ret
  exact ⟨by rw [hc.out, ← Nat.add_assoc]; rfl, hfin.out, hO⟩

def HeldVMany (ts : List Va) : Prop := ∀ (A : Option Addr) (c k : Nat) (w : World), VasAt w w.heap.size A (markVas ts k) → 0 < k → k + cntVas ts ≤ 2 ^ 62 → Calls Try.prog 74 #[.slice A ts.length c, .int .i64 k] w (HeldTo w (k + cntVas ts))

theorem vmarked_elem {w : World} {B k : Nat} {A : Option Addr} {ts : List Va} (h : VasAt w B A (markVas ts k)) (i : Nat) (hi : i < ts.length) :
    ∃ b off L lc A' ac, A = some ⟨b, off, none⟩ ∧ b < B ∧ w.cell? ⟨b, off + i * 5, none⟩ = some (.int .i64 ((k + cntVas (ts.take i) : Nat) : Int)) ∧ w.cell? ⟨b, off + i * 5 + 1, none⟩ = some (.int .i64 ((k + cntVas (ts.take i) + 1 : Nat) : Int)) ∧ w.cell? ⟨b, off + i * 5 + 2, none⟩ = some (.string (markB (k + cntVas (ts.take i) + 2))) ∧ w.cell? ⟨b, off + i * 5 + 3, none⟩ = some (.slice L ts[i].labels.length lc) ∧
      w.cell? ⟨b, off + i * 5 + 4, none⟩ = some (.slice A' ts[i].args.length ac) ∧ StrsAt w B L (marks (k + cntVas (ts.take i) + 3) ts[i].labels.length) ∧ VasAt w B A' (markVas ts[i].args (k + cntVas (ts.take i) + 3 + ts[i].labels.length)) := by
  have hl := markVas_len ts k
  have hi' : i < (markVas ts k).length := by omega
  obtain ⟨b, off, L, lc, A', ac, h1, h2, h3, hN, hM, h4, h5, hat⟩ := h.elem i hi'
  obtain ⟨L2, lc2, A2, ac2, he, _, _, _, h6, h7⟩ := hat.open
  simp only [Value.agg.injEq, Array.mk.injEq, List.cons.injEq, Value.slice.injEq, and_true, true_and] at he
  obtain ⟨⟨rfl, rfl⟩, rfl, rfl⟩ := he
  have hg := markVas_get ts k i hi
  rw [List.getElem?_eq_getElem hi'] at hg
  have hg' := Option.some.inj hg
  rw [hg'] at h3 hN hM h4 h5 h6 h7
  refine ⟨b, off, L, lc, A', ac, h1, h2, ?_, ?_, ?_, ?_, ?_, ?_, ?_⟩
  · revert h3; cases ts[i]; rw [markVa]; exact id
  · revert hN; cases ts[i]; rw [markVa]; exact id
  · revert hM; cases ts[i]; rw [markVa]; exact id
  · revert h4; cases ts[i]; rw [markVa]; simp only [setHead, Va.labels, marks_len]; exact id
  · revert h5; cases ts[i]; rw [markVa]; simp only [setHead, Va.args, markVas_len]; exact id
  · revert h6; cases ts[i]; rw [markVa]; exact id
  · revert h7; cases ts[i]; rw [markVa]; exact id

set_option maxHeartbeats 1000000 in
theorem heldValueS_of (ts : List Va) (hall : ∀ i, (h : i < ts.length) → HeldVMany ts[i].args) : HeldVMany ts := by
  intro A c k w hA h0 h1
  have HALL := Lib.hid hall
  clear hall
  have hm := hA.1
  rw [markVas_len] at hm
  unfold maxLen at hm
  go_enter Try.func74, Try.ntmps74
  go_wp2
  go_loopw [1, 5] (fun m i wr => ∃ j q : Nat, j ≤ ts.length ∧ i = .int .i64 j ∧ m = .int .i64 (q : Int) ∧ Hid (q = k + cntVas (ts.take j)) ∧ Below w.heap.size w wr) (fun _ i _ => ts.length - (intOf i).toNat)
  case atStart => exact ⟨0, k, Nat.zero_le _, rfl, rfl, Lib.hid (by simp [cntVas]), Below.refl _ _⟩
  case round =>
    obtain ⟨j, q, hj, rfl, rfl, hq, hb⟩ := hrel
    by_cases hlt : j < ts.length
    · have hc1 := Lib.hid (cntVas_take ts j hlt)
      have hc2 := cntVas_le ts (j + 1)
      have hc4 := Lib.hid (cntVa_eq ts[j])
      have hq1 : q + 3 + ts[j].labels.length + cntVas ts[j].args ≤ 2 ^ 62 := by have := hc1.out; have := hc4.out; have := hq.out; omega
      obtain ⟨b, off, L, lc, A', ac, rfl, hbl, q0, qn, qm, q1, q2, hl, ha⟩ := vmarked_elem (hA.below hb) j hlt
      rw [← hq.out] at q0 qn qm hl ha
      rw [show ((q + 1 : Nat) : Int) = (q : Int) + 1 by omega] at qn
      have hbs := hb.size
      have hbl' : b < wr.heap.size := by omega
      have hne : ((q : Int) != (q : Int)) = false := by simp
      have hne1 : ((q : Int) + 1 != (q : Int) + 1) = false := by simp
      have hne2 : ((markB (q + 2)).toList != (markB (q + 2)).toList) = false := by simp
      have hne3 : ((markB (q + 2)).toList == (markB (q + 2)).toList) = true := by simp
      have HMT := Lib.hid (fun W => (show Calls Try.prog 92 #[.int .i64 ((q : Int) + 1 + 1)] W fun e w' => e = .returned (.string (markB (q + 2))) ∧ Below W.heap.size W w' by
        have := markText_any (q + 2) W (by omega) (by omega)
        rw [show ((q + 2 : Nat) : Int) = (q : Int) + 1 + 1 by omega] at this
        exact this))
      have HHL := Lib.hid (fun (W : World) (hW : StrsAt W W.heap.size L (marks (q + 3) ts[j].labels.length)) => (show Calls Try.prog 73 #[.slice L ts[j].labels.length lc, .int .i64 ((q : Int) + 1 + 1 + 1)] W (HeldTo W (q + 3 + ts[j].labels.length)) by
        have := heldLabels L lc (q + 3) ts[j].labels.length W hW (by omega) (by omega)
        rw [show ((q + 3 : Nat) : Int) = (q : Int) + 1 + 1 + 1 by omega] at this
        exact this))
      generalize hmb : markB (q + 2) = mb at *
      clear hmb
      go_wp2
      go_region_held3 (fun w' => w'.cell? ⟨b, off + j * 5 + 2, none⟩ = some (.string mb) ∧ Below wr.heap.size wr w') ((first | exact ⟨qm, (Below.refl _ _).drew⟩ | exact ⟨hk1, hk2⟩))
        (first | (go_at_call 92; refine (HMT.out _).mono ?_; rintro e w' ⟨rfl, hbm⟩; have hk2 := (Below.refl wr.heap.size wr).drew.trans hbm; have hk1 := (hk2.cell (p := ⟨b, off + j * 5 + 2, none⟩) hbl').trans qm))
      have hsk := hk2.size
      have q1' := (hk2.cell (p := ⟨b, off + j * 5 + 3, none⟩) hbl').trans q1
      have hbk := hb.trans (hk2.mono hbs)
      have hbl2 : b < w'.heap.size := by omega
      have q2k := (hk2.cell (p := ⟨b, off + j * 5 + 4, none⟩) hbl').trans q2
      have hl2 := (hl.more hbs).up' hk2
      have ha2 := (ha.more hbs).up hk2
      clear q0 qn qm q1 q2 hl ha hne hne1 hne2 hne3 hk1 hbm
      go_wp2_with fail
      refine (HHL.out _ hl2).mono ?_
      rintro e w1 ⟨rfl, hb1⟩
      have q2' := (hb1.cell (p := ⟨b, off + j * 5 + 4, none⟩) hbl2).trans q2k
      have hb1' := hbk.trans (hb1.mono hbk.size)
      have HT := Lib.hid (HALL.out j hlt A' ac (q + 3 + ts[j].labels.length) w1 (ha2.up hb1) (by omega) (by omega))
      have hnn : ¬ ((q + 3 + ts[j].labels.length : Nat) : Int) < 0 := by omega
      clear q1' q2k hl2 ha2
      go_wp2_with fail
      refine HT.out.mono ?_
      rintro e w2 ⟨rfl, hb2⟩
      go_wp2
      go_roundw
      case rel => exact ⟨j + 1, q + 3 + ts[j].labels.length + cntVas ts[j].args, by omega, by go_num, rfl, Lib.hid (by have := hc1.out; have := hc4.out; have := hq.out; omega), hb1'.trans (hb2.mono hb1'.size)⟩
      case measure => simp [intOf]; omega
    · have hje : j = ts.length := by omega
      subst hje
      rw [List.take_length] at hq
      go_wp2
      go_ret
      exact ⟨by rw [hq.out]; rfl, hb⟩

theorem heldVMany_any (t : Va) : HeldVMany t.args := by
  induction t using Va.ind with
  | h k n nm ls ts ih => exact heldValueS_of ts ih

set_option maxHeartbeats 1000000 in
theorem heldValue_any (t : Va) (v : Value) (k : Nat) (w : World) (hv : VaAt w w.heap.size v (markVa t k)) (h0 : 0 < k) (h1 : k + cntVa t ≤ 2 ^ 62) :
    Calls Try.prog 37 #[v, .int .i64 k] w (HeldTo w (k + cntVa t)) := by
  have hc := Lib.hid (cntVa_eq t)
  have hq1 : k + t.labels.length + cntVas t.args ≤ 2 ^ 62 := by have := hc.out; omega
  have hv' : ∃ L lc A ac, v = .agg #[.int .i64 t.kind, .int .i64 t.num, .string t.name, .slice L t.labels.length lc, .slice A t.args.length ac] ∧ StrsAt w w.heap.size L (marks k t.labels.length) ∧ VasAt w w.heap.size A (markVas t.args (k + t.labels.length)) := by
    obtain ⟨L, lc, A, ac, e, _, _, _, h3, h4⟩ := hv.open
    refine ⟨L, lc, A, ac, ?_, ?_, ?_⟩
    · rw [e]; cases t; rw [markVa]; simp only [Va.labels, Va.args, Va.kind, Va.num, Va.name, marks_len, markVas_len]
    · revert h3; cases t; rw [markVa]; exact id
    · revert h4; cases t; rw [markVa]; exact id
  obtain ⟨L, lc, A, ac, rfl, hl, ha⟩ := hv'
  obtain ⟨hb0, p0, hs0⟩ := boxes1 w 51 #[.int .i64 t.kind, .int .i64 t.num, .string t.name, .slice L t.labels.length lc, .slice A t.args.length ac]
  have HZ := Lib.hid hs0
  clear hv hs0
  go_enter Try.func37, Try.ntmps37
  go_wp2_with fail
  generalize w.alloc (.cells #[.int .i64 t.kind, .int .i64 t.num, .string t.name, .slice L t.labels.length lc, .slice A t.args.length ac] 51) = w0 at *
  refine (heldLabels L lc k t.labels.length w0 (hl.up' hb0) h0 (by omega)).mono ?_
  rintro e w1 ⟨rfl, hb1⟩
  have p1 := p0.below hb1 p0.lt
  have c1 : w1.cell? ⟨w.heap.size, 4, none⟩ = some (.slice A t.args.length ac) := p1.cell 4
  have hb1' := hb0.trans (hb1.mono hb0.size)
  clear p0 p1
  go_wp2_with fail
  refine (heldVMany_any t A ac (k + t.labels.length) w1 (ha.up hb1') (by omega) (by omega)).mono ?_
  rintro e w2 ⟨rfl, hb2⟩
  go_wp2
  go_ret
  exact ⟨by rw [hc.out, ← Nat.add_assoc]; rfl, hb1'.trans (hb2.mono hb1'.size)⟩

end Go.Proofs.Ytinkanbaiflhdaa
