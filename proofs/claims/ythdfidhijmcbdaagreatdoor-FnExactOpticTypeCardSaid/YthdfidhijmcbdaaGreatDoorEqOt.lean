/- laws.eqOptic of two values that read as the same tree. -/
import Derived.Test.YthdfidhijmcbdaaGreatDoorToOt
import Derived.Test.YthdfidhijmcbdaaGreatDoorEqTy
import Derived.Deep.RegionHeld3
namespace Go.Proofs.YthdfidhijmcbdaaGreatDoor
open Go.RowKit

def EqOOne (t : Ot) : Prop := ∀ (v v' : Value) (w : World), OtAt w w.heap.size v t → OtAt w w.heap.size v' t → Calls Tryz.prog 23 #[v, v'] w (YesBelow w)
def EqOMany (ts : List Ot) : Prop := ∀ (A A' : Option Addr) (c c' : Nat) (w : World), OtsAt w w.heap.size A ts → OtsAt w w.heap.size A' ts → Calls Tryz.prog 53 #[.slice A ts.length c, .slice A' ts.length c'] w (YesBelow w)

set_option maxHeartbeats 1000000 in
theorem eqOptic_of (k n : Int) (nm : ByteArray) (ts : List Ot) (h : EqOMany ts) : EqOOne (.mk k n nm ts) := by
  intro v v' w hv hv'
  obtain ⟨A, ac, rfl, hnm, ha⟩ := hv.open
  obtain ⟨A', ac', rfl, hnm', ha'⟩ := hv'.open
  simp only [Ot.kind, Ot.num, Ot.name, Ot.args] at *
  have HT := Lib.hid h
  have hkk : (k != k) = false := by simp
  have hnn : (n != n) = false := by simp
  have hqq : (nm.toList == nm.toList) = true := by simp
  clear hnm hnm' h hv hv'
  obtain ⟨hb0, p0, q0, hs0⟩ := boxes2 w 30 30 #[.int .i64 k, .string nm, .int .i64 n, .slice A ts.length ac] #[.int .i64 k, .string nm, .int .i64 n, .slice A' ts.length ac']
  have ha1 := ha.up hb0
  have ha2 := ha'.up hb0
  go_enter Tryz.func23, Tryz.ntmps23
  go_wp2_with fail
  generalize (w.alloc (.cells #[.int .i64 k, .string nm, .int .i64 n, .slice A ts.length ac] 30)).alloc (.cells #[.int .i64 k, .string nm, .int .i64 n, .slice A' ts.length ac'] 30) = w0 at *
  refine (HT.out _ _ _ _ w0 ha1 ha2).mono ?_
  rintro e w2 ⟨rfl, hb2⟩
  go_wp2
  go_ret
  exact ⟨rfl, hb0.trans (hb2.mono hb0.size)⟩

set_option maxHeartbeats 1000000 in
theorem eqOpticS_of (ts : List Ot) (hall : ∀ i, (h : i < ts.length) → EqOOne ts[i]) : EqOMany ts := by
  intro A A' c c' w hA hA'
  have hm := hA.1
  unfold maxLen at hm
  have HALL := Lib.hid hall
  clear hall
  have hneq : ((ts.length : Int) != ts.length) = false := by simp
  go_enter Tryz.func53, Tryz.ntmps53
  go_wp2
  go_loopw [5] (fun i wr => ∃ k : Nat, k ≤ ts.length ∧ i = .int .i64 k ∧ Below w.heap.size w wr) (fun i _ => ts.length - (intOf i).toNat)
  case atStart => exact ⟨0, Nat.zero_le _, rfl, Below.refl _ _⟩
  case round =>
    obtain ⟨k, hk, rfl, hb⟩ := hrel
    clear hneq
    by_cases hlt : k < ts.length
    · obtain ⟨b, off, C, cc, rfl, hbl, q0, q1, q2, q3, ht⟩ := (hA.below hb).elem k hlt
      obtain ⟨b', off', C', cc', rfl, hbl', q0', q1', q2', q3', ht'⟩ := (hA'.below hb).elem k hlt
      have hbs := hb.size
      have HT := Lib.hid (HALL.out k hlt _ _ wr.drew ((ht.more hbs).up (Below.refl _ _).drew) ((ht'.more hbs).up (Below.refl _ _).drew))
      clear ht ht'
      go_wp2
      go_region_held3 (fun w' => w'.cell? ⟨b, off + k * 4, none⟩ = some (.int .i64 ts[k].kind) ∧ w'.cell? ⟨b, off + k * 4 + 2, none⟩ = some (.int .i64 ts[k].num) ∧ w'.cell? ⟨b, off + k * 4 + 1, none⟩ = some (.string ts[k].name) ∧ w'.cell? ⟨b, off + k * 4 + 3, none⟩ = some (.slice C ts[k].args.length cc) ∧ w'.cell? ⟨b', off' + k * 4, none⟩ = some (.int .i64 ts[k].kind) ∧ w'.cell? ⟨b', off' + k * 4 + 2, none⟩ = some (.int .i64 ts[k].num) ∧ w'.cell? ⟨b', off' + k * 4 + 1, none⟩ = some (.string ts[k].name) ∧ w'.cell? ⟨b', off' + k * 4 + 3, none⟩ = some (.slice C' ts[k].args.length cc') ∧ Below wr.heap.size wr w') ((first | exact ⟨q0, q1, q2, q3, q0', q1', q2', q3', (Below.refl _ _).drew⟩ | exact ⟨k0, k1, k2, k3, k0', k1', k2', k3', kb⟩))
        (first | (go_at_call 23; refine HT.out.mono ?_; rintro e w' ⟨rfl, hb1⟩; have kb := (Below.refl wr.heap.size wr).drew.trans hb1; have k0 := (kb.cell (p := ⟨b, off + k * 4, none⟩) (by show b < _; omega)).trans q0; have k1 := (kb.cell (p := ⟨b, off + k * 4 + 2, none⟩) (by show b < _; omega)).trans q1; have k2 := (kb.cell (p := ⟨b, off + k * 4 + 1, none⟩) (by show b < _; omega)).trans q2; have k3 := (kb.cell (p := ⟨b, off + k * 4 + 3, none⟩) (by show b < _; omega)).trans q3; have k0' := (kb.cell (p := ⟨b', off' + k * 4, none⟩) (by show b' < _; omega)).trans q0'; have k1' := (kb.cell (p := ⟨b', off' + k * 4 + 2, none⟩) (by show b' < _; omega)).trans q1'; have k2' := (kb.cell (p := ⟨b', off' + k * 4 + 1, none⟩) (by show b' < _; omega)).trans q2'; have k3' := (kb.cell (p := ⟨b', off' + k * 4 + 3, none⟩) (by show b' < _; omega)).trans q3'))
      go_wp2
      go_roundw
      case rel => exact ⟨k + 1, by omega, by go_num, hb.trans (kb.mono hbs)⟩
      case measure => simp [intOf]; omega
    · go_wp2
      go_ret
      exact ⟨rfl, hb⟩

theorem eqOptic_any (t : Ot) : EqOOne t := by
  induction t using Ot.ind with
  | h k n nm ts ih => exact eqOptic_of k n nm ts (eqOpticS_of ts ih)

end Go.Proofs.YthdfidhijmcbdaaGreatDoor
