/- laws.eqType of two values that read as the same tree. -/
import Derived.Test.YthdfidhijmcbdaaGreatDoorToTy
import Derived.Test.YthdfidhijmcbdaaGreatDoorSz
import Derived.Deep.RegionHeld3
namespace Go.Proofs.YthdfidhijmcbdaaGreatDoor
open Go.RowKit

/-- True is handed back; what was there stands. -/
def YesBelow (w : World) (e : Ending) (w' : World) : Prop := e = .returned (.bool true) ∧ Below w.heap.size w w'

def EqOne (t : Ty) : Prop := ∀ (v v' : Value) (w : World), TyAt w w.heap.size v t → TyAt w w.heap.size v' t → Calls Tryz.prog 22 #[v, v'] w (YesBelow w)
def EqMany (ts : List Ty) : Prop := ∀ (A A' : Option Addr) (c c' : Nat) (w : World), TysAt w w.heap.size A ts → TysAt w w.heap.size A' ts → Calls Tryz.prog 52 #[.slice A ts.length c, .slice A' ts.length c'] w (YesBelow w)

theorem drewN_below (w : World) (n : Nat) : Below w.heap.size w (w.drewN n) := ⟨rfl, rfl, rfl, Nat.le_refl _, fun _ _ => rfl⟩

theorem boxes2 (w : World) (t1 t2 : TypeId) (a b : Array Value) :
    Below w.heap.size w ((w.alloc (.cells a t1)).alloc (.cells b t2)) ∧ Whole1 ((w.alloc (.cells a t1)).alloc (.cells b t2)) w.heap.size t1 a ∧
    Whole1 ((w.alloc (.cells a t1)).alloc (.cells b t2)) (w.heap.size + 1) t2 b ∧ ((w.alloc (.cells a t1)).alloc (.cells b t2)).heap.size = w.heap.size + 2 := by
  refine ⟨((Below.refl _ _).alloc (Nat.le_refl _) _).alloc (by simp) _, ?_, ?_, by simp⟩
  · exact Whole1.below (B := w.heap.size + 1) (Whole1.new _ _ _) ((Below.refl _ _).alloc (by simp) _) (by omega)
  · have h := Whole1.new (w.alloc (.cells a t1)) t2 b
    simpa using h

set_option maxHeartbeats 1000000 in
theorem eqType_of (k : Int) (ls : List ByteArray) (ts : List Ty) (h : EqMany ts) : EqOne (.mk k ls ts) := by
  intro v v' w hv hv'
  obtain ⟨L, lc, A, ac, rfl, hn, hz, hl, ha⟩ := hv.open
  obtain ⟨L', lc', A', ac', rfl, hn', hz', hl', ha'⟩ := hv'.open
  simp only [Ty.kind, Ty.labels, Ty.args] at *
  have HN := Lib.hid hn
  have HT := Lib.hid h
  have hkk : (k != k) = false := by simp
  clear hz hz' hn hn' h hv hv'
  go_enter Tryz.func22, Tryz.ntmps22
  go_wp2_with fail
  obtain ⟨hb0, p0, q0, hs0⟩ := boxes2 w 27 27 #[.int .i64 k, .slice L ls.length lc, .slice A ts.length ac] #[.int .i64 k, .slice L' ls.length lc', .slice A' ts.length ac']
  generalize (w.alloc (.cells #[.int .i64 k, .slice L ls.length lc, .slice A ts.length ac] 27)).alloc (.cells #[.int .i64 k, .slice L' ls.length lc', .slice A' ts.length ac'] 27) = w0 at *
  have HZ := Lib.hid hs0
  clear hs0
  refine (eqStringS_same _ _ _ _ _ _ ls w0 (hl.up' hb0) (hl'.up' hb0) HN.out).mono ?_
  rintro e w1 ⟨rfl, n1, rfl⟩
  have p1 := p0.drewN n1
  have q1 := q0.drewN n1
  have hb1 := hb0.trans ((drewN_below w0 n1).mono hb0.size)
  clear p0 q0
  generalize w0.drewN n1 = w1 at *
  have c1 : w1.cell? ⟨w.heap.size, 2, none⟩ = some (.slice A ts.length ac) := p1.cell 2
  have c2 : w1.cell? ⟨w.heap.size + 1, 2, none⟩ = some (.slice A' ts.length ac') := q1.cell 2
  clear p1 q1
  go_wp2_with fail
  refine (HT.out _ _ _ _ w1 (ha.up hb1) (ha'.up hb1)).mono ?_
  rintro e w2 ⟨rfl, hb2⟩
  go_wp2
  go_ret
  exact ⟨rfl, hb1.trans (hb2.mono hb1.size)⟩

set_option maxHeartbeats 1000000 in
theorem eqTypeS_of (ts : List Ty) (hall : ∀ i, (h : i < ts.length) → EqOne ts[i]) : EqMany ts := by
  intro A A' c c' w hA hA'
  have hm := hA.1
  unfold maxLen at hm
  have HALL := Lib.hid hall
  clear hall
  have hneq : ((ts.length : Int) != ts.length) = false := by simp
  go_enter Tryz.func52, Tryz.ntmps52
  go_wp2
  go_loopw [5] (fun i wr => ∃ k : Nat, k ≤ ts.length ∧ i = .int .i64 k ∧ Below w.heap.size w wr) (fun i _ => ts.length - (intOf i).toNat)
  case atStart => exact ⟨0, Nat.zero_le _, rfl, Below.refl _ _⟩
  case round =>
    obtain ⟨k, hk, rfl, hb⟩ := hrel
    clear hneq
    by_cases hlt : k < ts.length
    · obtain ⟨b, off, L, lc, C, cc, rfl, hbl, q0, q1, q2, _, _, _, _, ht⟩ := (hA.below hb).elem k hlt
      obtain ⟨b', off', L', lc', C', cc', rfl, hbl', q0', q1', q2', _, _, _, _, ht'⟩ := (hA'.below hb).elem k hlt
      have hbs := hb.size
      have HT := Lib.hid (HALL.out k hlt _ _ wr.drew ((ht.more hbs).up (Below.refl _ _).drew) ((ht'.more hbs).up (Below.refl _ _).drew))
      clear ht ht'
      go_wp2
      go_region_held3 (fun w' => w'.cell? ⟨b, off + k * 3, none⟩ = some (.int .i64 ts[k].kind) ∧ w'.cell? ⟨b, off + k * 3 + 1, none⟩ = some (.slice L ts[k].labels.length lc) ∧ w'.cell? ⟨b, off + k * 3 + 2, none⟩ = some (.slice C ts[k].args.length cc) ∧ w'.cell? ⟨b', off' + k * 3, none⟩ = some (.int .i64 ts[k].kind) ∧ w'.cell? ⟨b', off' + k * 3 + 1, none⟩ = some (.slice L' ts[k].labels.length lc') ∧ w'.cell? ⟨b', off' + k * 3 + 2, none⟩ = some (.slice C' ts[k].args.length cc') ∧ Below wr.heap.size wr w') ((first | exact ⟨q0, q1, q2, q0', q1', q2', (Below.refl _ _).drew⟩ | exact ⟨k0, k1, k2, k0', k1', k2', k6⟩))
        (first | (go_at_call 22; refine HT.out.mono ?_; rintro e w' ⟨rfl, hb1⟩; have k6 := (Below.refl wr.heap.size wr).drew.trans hb1; have k0 := (k6.cell (p := ⟨b, off + k * 3, none⟩) (by show b < _; omega)).trans q0; have k1 := (k6.cell (p := ⟨b, off + k * 3 + 1, none⟩) (by show b < _; omega)).trans q1; have k2 := (k6.cell (p := ⟨b, off + k * 3 + 2, none⟩) (by show b < _; omega)).trans q2; have k0' := (k6.cell (p := ⟨b', off' + k * 3, none⟩) (by show b' < _; omega)).trans q0'; have k1' := (k6.cell (p := ⟨b', off' + k * 3 + 1, none⟩) (by show b' < _; omega)).trans q1'; have k2' := (k6.cell (p := ⟨b', off' + k * 3 + 2, none⟩) (by show b' < _; omega)).trans q2'))
      go_wp2
      go_roundw
      case rel => exact ⟨k + 1, by omega, by go_num, hb.trans (k6.mono hbs)⟩
      case measure => simp [intOf]; omega
    · go_wp2
      go_ret
      exact ⟨rfl, hb⟩

theorem eqType_any (t : Ty) : EqOne t := by
  induction t using Ty.ind with
  | h k ls ts ih => exact eqType_of k ls ts (eqTypeS_of ts ih)

end Go.Proofs.YthdfidhijmcbdaaGreatDoor
