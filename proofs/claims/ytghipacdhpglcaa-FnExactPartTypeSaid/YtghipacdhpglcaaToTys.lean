/- laws.toTypeS, and with it toType at every tree. -/
import Derived.Test.YtghipacdhpglcaaToTy
namespace Go.Proofs.Ytghipacdhpglcaa
open Go.RowKit

theorem Filling.cells {w : World} {lo g n k : Nat} {ts : List Ty} (h : Filling w lo g n k ts) (i : Nat) (hi : i < n) : ∃ x y z, w.cell? ⟨g, i * 3, none⟩ = some x ∧ w.cell? ⟨g, i * 3 + 1, none⟩ = some y ∧ w.cell? ⟨g, i * 3 + 2, none⟩ = some z ∧
    w.frozen? ⟨g, i * 3, none⟩ = false ∧ w.frozen? ⟨g, i * 3 + 1, none⟩ = false ∧ w.frozen? ⟨g, i * 3 + 2, none⟩ = false := by
  obtain ⟨cs, vs, bd, h1, h2, _⟩ := h
  refine ⟨cs[i * 3]'(by omega), cs[i * 3 + 1]'(by omega), cs[i * 3 + 2]'(by omega), ?_, ?_, ?_, h1.free _, h1.free _, h1.free _⟩
  all_goals rw [h1.cell, Array.getElem?_eq_getElem]
theorem Filling.start (w : World) (cs : Array Value) (n : Nat) (ts : List Ty) (hs : cs.size = n * 3) : Filling (w.alloc (.cells cs 36)) w.heap.size w.heap.size n 0 ts :=
  ⟨cs, fun _ => .bool false, fun _ => w.heap.size + 1, Whole1.new _ _ _, hs, fun i hi => absurd hi (by omega), Nat.le_refl _, Nat.lt_succ_self _, fun i hi => absurd hi (by omega), by simp, fun i _ hi => absurd hi (by omega)⟩

set_option maxHeartbeats 1000000 in
theorem toTypeS_of (ts : List Ty) (hall : ∀ i, (h : i < ts.length) → ToOne ts[i]) : ToMany ts := by
  intro A c w hA hsz
  have hm := hA.1
  have hle := szTys_len ts
  have HALL := Lib.hid hall
  clear hall
  obtain ⟨cs, hcs, hmk⟩ := run_make_elems (P := Try.prog) (n := ts.length) Try.underlying34 infoType (by omega) (by omega) w
  have hcs' := Lib.hid hcs
  clear hcs
  go_enter Try.func84, Try.ntmps84
  go_wp2
  go_loopw [4] (fun i wr => ∃ k : Nat, k ≤ ts.length ∧ i = .int .i64 k ∧ Filling wr w.heap.size w.heap.size ts.length k ts ∧ Below w.heap.size w wr) (fun i _ => ts.length - (intOf i).toNat)
  case atStart => exact ⟨0, Nat.zero_le _, rfl, Filling.start _ _ _ _ hcs'.out, (Below.refl _ _).alloc (Nat.le_refl _) _⟩
  case round =>
    obtain ⟨k, hk, rfl, hf, hb⟩ := hrel
    clear hmk
    by_cases hlt : k < ts.length
    · obtain ⟨b, off, L, lc, A', ac, rfl, hbl, q0, q1, q2, hn, hz, hl, ha, ht⟩ := (hA.below hb).elem k hlt
      have hpt := szTy_part ts k hlt
      have HT := Lib.hid (HALL.out k hlt _ wr (ht.more hb.size) (by omega))
      have HF := Lib.hid hf
      clear ht ha hl hz hf
      go_wp2_with fail
      refine HT.out.mono ?_
      rintro e w1 ⟨v, rfl, hv, hb1⟩
      have hv' := Lib.hid hv
      obtain ⟨L1, lc1, A1, ac1, gl1, rfl, _⟩ := hv.open
      clear hv
      obtain ⟨x, y, z, c1, c2, c3, c4, c5, c6⟩ := (HF.out.below hb1).cells k hlt
      have hst := Lib.hid (HF.out.step hb1 hlt hlt hv'.out)
      have hb' := hb.trans (hb1.mono hb.size)
      clear q0 q1 q2 HF hv'
      go_wp2
      go_roundw
      case rel => exact ⟨k + 1, by omega, by go_num, hst.out, ((hb'.setCell (Nat.le_refl _) _).setCell (Nat.le_refl _) _).setCell (Nat.le_refl _) _⟩
      case measure => simp [intOf]; omega
    · have hke : k = ts.length := by omega
      subst hke
      go_wp2
      go_ret
      exact ⟨_, _, rfl, Nat.le_refl _, hf.done hm, hb⟩

theorem toType_any (t : Ty) : ToOne t := by
  induction t using Ty.ind with
  | h k ls ts ih => exact toType_of k ls ts (toTypeS_of ts ih)

end Go.Proofs.Ytghipacdhpglcaa
