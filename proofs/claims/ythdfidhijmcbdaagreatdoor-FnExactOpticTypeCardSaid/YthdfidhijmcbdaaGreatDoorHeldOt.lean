/- laws.markOptic, laws.heldOptic at every optic. -/
import Derived.Test.YthdfidhijmcbdaaGreatDoorMarkOt
import Derived.Test.YthdfidhijmcbdaaGreatDoorHeldTy
import Derived.Test.YthdfidhijmcbdaaGreatDoorEqOt
namespace Go.Proofs.YthdfidhijmcbdaaGreatDoor
open Go.RowKit

theorem markOMany_any (t : Ot) : MarkOMany t.args := by
  induction t using Ot.ind with
  | h k n nm ts ih => exact markOpticS_of ts ih

/-- A tree is marked. -/
def MarkedOt (w : World) (S : Nat → Prop) (v : Value) (k : Nat) (t : Ot) (e : Ending) (w' : World) : Prop :=
  e = .returned (.int .i64 ((k + cntOt t : Nat) : Int)) ∧ OtIn w' S v (markOt t k) ∧ OnlyIn S w w'

set_option maxHeartbeats 1000000 in
theorem markOptic_any (t : Ot) (S : Nat → Prop) (v : Value) (k : Nat) (w : World) (hv : OtIn w S v t) (h0 : 0 < k) (h1 : k + cntOt t ≤ 2 ^ 62) :
    Calls Tryz.prog 25 #[v, .int .i64 k] w (MarkedOt w S v k t) := by
  have hc := Lib.hid (cntOt_eq t)
  have hq1 : k + cntOts t.args ≤ 2 ^ 62 := by have := hc.out; omega
  obtain ⟨A, ac, rfl, hnm, ha⟩ := hv.open
  obtain ⟨hb0, p0, hs0⟩ := boxes1 w 30 #[.int .i64 t.kind, .string t.name, .int .i64 t.num, .slice A t.args.length ac]
  have hk0 : ∀ b, b < w.heap.size → (w.alloc (.cells #[.int .i64 t.kind, .string t.name, .int .i64 t.num, .slice A t.args.length ac] 30)).heap[b]? = w.heap[b]? := fun b hb => hb0.block b hb
  have HA := Lib.hid (ha.keep (fun b _ hb => hk0 b hb))
  clear ha hv hk0
  go_enter Tryz.func25, Tryz.ntmps25
  go_wp2_with fail
  generalize w.alloc (.cells #[.int .i64 t.kind, .string t.name, .int .i64 t.num, .slice A t.args.length ac] 30) = w0 at *
  have HZ := Lib.hid hs0
  clear hs0
  refine (markOMany_any t S A ac k w0 HA.out h0 hq1).mono ?_
  rintro e w2 ⟨rfl, ht2, ho2⟩
  have HT := Lib.hid ht2
  have hO : OnlyIn S w w2 := (OnlyIn.of_below hb0).trans ho2
  clear ht2
  go_wp2
  go_ret
  exact ⟨by rw [hc.out]; rfl, markOIn k hnm HT.out, hO⟩

theorem omarked_elem {w : World} {B k : Nat} {A : Option Addr} {ts : List Ot} (h : OtsAt w B A (markOts ts k)) (i : Nat) (hi : i < ts.length) :
    ∃ b off A' ac, A = some ⟨b, off, none⟩ ∧ b < B ∧ w.cell? ⟨b, off + i * 4, none⟩ = some (.int .i64 ((k + cntOts (ts.take i) : Nat) : Int)) ∧ w.cell? ⟨b, off + i * 4 + 1, none⟩ = some (.string (markB (k + cntOts (ts.take i) + 1))) ∧ w.cell? ⟨b, off + i * 4 + 2, none⟩ = some (.int .i64 ((k + cntOts (ts.take i) + 2 : Nat) : Int)) ∧
      w.cell? ⟨b, off + i * 4 + 3, none⟩ = some (.slice A' ts[i].args.length ac) ∧ OtsAt w B A' (markOts ts[i].args (k + cntOts (ts.take i) + 3)) := by
  have hl := markOts_len ts k
  have hi' : i < (markOts ts k).length := by omega
  obtain ⟨b, off, A', ac, h1, h2, h3, hN, hM, h5, hat⟩ := h.elem i hi'
  obtain ⟨A2, ac2, he, _, h7⟩ := hat.open
  simp only [Value.agg.injEq, Array.mk.injEq, List.cons.injEq, Value.slice.injEq, and_true, true_and] at he
  obtain ⟨rfl, rfl⟩ := he
  have hg := markOts_get ts k i hi
  rw [List.getElem?_eq_getElem hi'] at hg
  have hg' := Option.some.inj hg
  rw [hg'] at h3 hN hM h5 h7
  refine ⟨b, off, A', ac, h1, h2, ?_, ?_, ?_, ?_, ?_⟩
  · revert h3; cases ts[i]; rw [markOt]; exact id
  · revert hM; cases ts[i]; rw [markOt]; exact id
  · revert hN; cases ts[i]; rw [markOt]; exact id
  · revert h5; cases ts[i]; rw [markOt]; simp only [setHeadO, Ot.args, markOts_len]; exact id
  · revert h7; cases ts[i]; rw [markOt]; exact id

end Go.Proofs.YthdfidhijmcbdaaGreatDoor
