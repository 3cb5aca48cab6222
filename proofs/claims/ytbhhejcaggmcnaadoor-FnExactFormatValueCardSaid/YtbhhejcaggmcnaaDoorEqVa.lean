/- laws.eqValue of two values that read as the same tree. -/
import Derived.Test.YtbhhejcaggmcnaaDoorToVa
import Derived.Test.YtbhhejcaggmcnaaDoorEqTy
import Derived.Deep.RegionHeld3
namespace Go.Proofs.YtbhhejcaggmcnaaDoor
open Go.RowKit

def EqVOne (t : Va) : Prop := ∀ (v v' : Value) (w : World), VaAt w w.heap.size v t → VaAt w w.heap.size v' t → Calls Tryd.prog 12 #[v, v'] w (YesBelow w)
def EqVMany (ts : List Va) : Prop := ∀ (A A' : Option Addr) (c c' : Nat) (w : World), VasAt w w.heap.size A ts → VasAt w w.heap.size A' ts → Calls Tryd.prog 43 #[.slice A ts.length c, .slice A' ts.length c'] w (YesBelow w)

set_option maxHeartbeats 1000000 in
theorem eqValue_of (k n : Int) (nm : ByteArray) (ls : List ByteArray) (ts : List Va) (h : EqVMany ts) : EqVOne (.mk k n nm ls ts) := by
  intro v v' w hv hv'
  obtain ⟨L, lc, A, ac, rfl, hnm, hn, hz, hl, ha⟩ := hv.open
  obtain ⟨L', lc', A', ac', rfl, hnm', hn', hz', hl', ha'⟩ := hv'.open
  simp only [Va.kind, Va.num, Va.name, Va.labels, Va.args] at *
  have HN := Lib.hid hn
  have HT := Lib.hid h
  have hkk : (k != k) = false := by simp
  have hnn : (n != n) = false := by simp
  have hqq : (nm.toList == nm.toList) = true := by simp
  clear hz hz' hn hn' hnm hnm' h hv hv'
  go_enter Tryd.func12, Tryd.ntmps12
  go_wp2_with fail
  obtain ⟨hb0, p0, q0, hs0⟩ := boxes2 w 30 30 #[.int .i64 k, .int .i64 n, .string nm, .slice L ls.length lc, .slice A ts.length ac] #[.int .i64 k, .int .i64 n, .string nm, .slice L' ls.length lc', .slice A' ts.length ac']
  generalize (w.alloc (.cells #[.int .i64 k, .int .i64 n, .string nm, .slice L ls.length lc, .slice A ts.length ac] 30)).alloc (.cells #[.int .i64 k, .int .i64 n, .string nm, .slice L' ls.length lc', .slice A' ts.length ac'] 30) = w0 at *
  have HZ := Lib.hid hs0
  clear hs0
  refine (eqStringS_same _ _ _ _ _ _ ls w0 (hl.up' hb0) (hl'.up' hb0) HN.out).mono ?_
  rintro e w1 ⟨rfl, n1, rfl⟩
  have p1 := p0.drewN n1
  have q1 := q0.drewN n1
  have hb1 := hb0.trans ((drewN_below w0 n1).mono hb0.size)
  clear p0 q0
  generalize w0.drewN n1 = w1 at *
  have c1 : w1.cell? ⟨w.heap.size, 4, none⟩ = some (.slice A ts.length ac) := p1.cell 4
  have c2 : w1.cell? ⟨w.heap.size + 1, 4, none⟩ = some (.slice A' ts.length ac') := q1.cell 4
  clear p1 q1
  go_wp2_with fail
  refine (HT.out _ _ _ _ w1 (ha.up hb1) (ha'.up hb1)).mono ?_
  rintro e w2 ⟨rfl, hb2⟩
  go_wp2
  go_ret
  exact ⟨rfl, hb1.trans (hb2.mono hb1.size)⟩

set_option maxHeartbeats 1000000 in
theorem eqValueS_of (ts : List Va) (hall : ∀ i, (h : i < ts.length) → EqVOne ts[i]) : EqVMany ts := by
  intro A A' c c' w hA hA'
  have hm := hA.1
  unfold maxLen at hm
  have HALL := Lib.hid hall
  clear hall
  have hneq : ((ts.length : Int) != ts.length) = false := by simp
  go_enter Tryd.func43, Tryd.ntmps43
  go_wp2
  go_loopw [5] (fun i wr => ∃ k : Nat, k ≤ ts.length ∧ i = .int .i64 k ∧ Below w.heap.size w wr) (fun i _ => ts.length - (intOf i).toNat)
  case atStart => exact ⟨0, Nat.zero_le _, rfl, Below.refl _ _⟩
  case round =>
    obtain ⟨k, hk, rfl, hb⟩ := hrel
    clear hneq
    by_cases hlt : k < ts.length
    · obtain ⟨b, off, L, lc, C, cc, rfl, hbl, q0, q1, q2, q3, q4, ht⟩ := (hA.below hb).elem k hlt
      obtain ⟨b', off', L', lc', C', cc', rfl, hbl', q0', q1', q2', q3', q4', ht'⟩ := (hA'.below hb).elem k hlt
      have hbs := hb.size
      have HT := Lib.hid (HALL.out k hlt _ _ wr.drew ((ht.more hbs).up (Below.refl _ _).drew) ((ht'.more hbs).up (Below.refl _ _).drew))
      clear ht ht'
      go_wp2
      go_region_held3 (fun w' => w'.cell? ⟨b, off + k * 5, none⟩ = some (.int .i64 ts[k].kind) ∧ w'.cell? ⟨b, off + k * 5 + 1, none⟩ = some (.int .i64 ts[k].num) ∧ w'.cell? ⟨b, off + k * 5 + 2, none⟩ = some (.string ts[k].name) ∧ w'.cell? ⟨b, off + k * 5 + 3, none⟩ = some (.slice L ts[k].labels.length lc) ∧ w'.cell? ⟨b, off + k * 5 + 4, none⟩ = some (.slice C ts[k].args.length cc) ∧ w'.cell? ⟨b', off' + k * 5, none⟩ = some (.int .i64 ts[k].kind) ∧ w'.cell? ⟨b', off' + k * 5 + 1, none⟩ = some (.int .i64 ts[k].num) ∧ w'.cell? ⟨b', off' + k * 5 + 2, none⟩ = some (.string ts[k].name) ∧ w'.cell? ⟨b', off' + k * 5 + 3, none⟩ = some (.slice L' ts[k].labels.length lc') ∧ w'.cell? ⟨b', off' + k * 5 + 4, none⟩ = some (.slice C' ts[k].args.length cc') ∧ Below wr.heap.size wr w') ((first | exact ⟨q0, q1, q2, q3, q4, q0', q1', q2', q3', q4', (Below.refl _ _).drew⟩ | exact ⟨k0, k1, k2, k3, k4, k0', k1', k2', k3', k4', kb⟩))
        (first | (go_at_call 12; refine HT.out.mono ?_; rintro e w' ⟨rfl, hb1⟩; have kb := (Below.refl wr.heap.size wr).drew.trans hb1; have k0 := (kb.cell (p := ⟨b, off + k * 5, none⟩) (by show b < _; omega)).trans q0; have k1 := (kb.cell (p := ⟨b, off + k * 5 + 1, none⟩) (by show b < _; omega)).trans q1; have k2 := (kb.cell (p := ⟨b, off + k * 5 + 2, none⟩) (by show b < _; omega)).trans q2; have k3 := (kb.cell (p := ⟨b, off + k * 5 + 3, none⟩) (by show b < _; omega)).trans q3; have k4 := (kb.cell (p := ⟨b, off + k * 5 + 4, none⟩) (by show b < _; omega)).trans q4; have k0' := (kb.cell (p := ⟨b', off' + k * 5, none⟩) (by show b' < _; omega)).trans q0'; have k1' := (kb.cell (p := ⟨b', off' + k * 5 + 1, none⟩) (by show b' < _; omega)).trans q1'; have k2' := (kb.cell (p := ⟨b', off' + k * 5 + 2, none⟩) (by show b' < _; omega)).trans q2'; have k3' := (kb.cell (p := ⟨b', off' + k * 5 + 3, none⟩) (by show b' < _; omega)).trans q3'; have k4' := (kb.cell (p := ⟨b', off' + k * 5 + 4, none⟩) (by show b' < _; omega)).trans q4'))
      go_wp2
      go_roundw
      case rel => exact ⟨k + 1, by omega, by go_num, hb.trans (kb.mono hbs)⟩
      case measure => simp [intOf]; omega
    · go_wp2
      go_ret
      exact ⟨rfl, hb⟩

theorem eqValue_any (t : Va) : EqVOne t := by
  induction t using Va.ind with
  | h k n nm ls ts ih => exact eqValue_of k n nm ls ts (eqValueS_of ts ih)

end Go.Proofs.YtbhhejcaggmcnaaDoor
