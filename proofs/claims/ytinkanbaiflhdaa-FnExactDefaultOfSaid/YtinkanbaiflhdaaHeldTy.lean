/- laws.markType, laws.heldType at every tree. -/
import Derived.Test.YtinkanbaiflhdaaMarkTy
import Derived.Test.YtinkanbaiflhdaaEqTy
namespace Go.Proofs.Ytinkanbaiflhdaa
open Go.RowKit

theorem markMany_any (t : Ty) : MarkMany t.args := by
  induction t using Ty.ind with
  | h k ls ts ih => exact markTypeS_of ts ih

/-- A tree is marked. -/
def MarkedTy (w : World) (S : Nat → Prop) (v : Value) (k : Nat) (t : Ty) (e : Ending) (w' : World) : Prop :=
  e = .returned (.int .i64 ((k + cntTy t : Nat) : Int)) ∧ TyIn w' S v (markTy t k) ∧ OnlyIn S w w'

set_option maxHeartbeats 1000000 in
theorem markType_any (t : Ty) (S : Nat → Prop) (v : Value) (k : Nat) (w : World) (hv : TyIn w S v t) (h0 : 0 < k) (h1 : k + cntTy t ≤ 2 ^ 62) (hS : ∀ b, S b → b < w.heap.size) :
    Calls Try.prog 35 #[v, .int .i64 k] w (MarkedTy w S v k t) := by
  have hc := Lib.hid (cntTy_eq t)
  have hq1 : k + t.labels.length + cntTys t.args ≤ 2 ^ 62 := by have := hc.out; omega
  obtain ⟨L, lc, A, ac, gl, rfl, hn, hz, hl, ha⟩ := hv.open
  obtain ⟨hb0, p0, hs0⟩ := boxes1 w 27 #[.int .i64 t.kind, .slice L t.labels.length lc, .slice A t.args.length ac]
  have hk0 : ∀ b, b < w.heap.size → (w.alloc (.cells #[.int .i64 t.kind, .slice L t.labels.length lc, .slice A t.args.length ac] 27)).heap[b]? = w.heap[b]? := fun b hb => hb0.block b hb
  have HS := Lib.hid hS
  have HL := Lib.hid hl
  have HA := Lib.hid ha
  clear hz hl ha hv hS
  go_enter Try.func35, Try.ntmps35
  go_wp2_with fail
  generalize w.alloc (.cells #[.int .i64 t.kind, .slice L t.labels.length lc, .slice A t.args.length ac] 27) = w0 at *
  have HZ := Lib.hid hs0
  have HK := Lib.hid hk0
  clear hs0 hk0
  refine (markLabels L lc k gl t.labels w0 (HL.out.imp id fun ⟨h1, h2, h3⟩ => ⟨h1, h3.same (HK.out gl h3.lt)⟩) h0 (by omega)).mono ?_
  rintro e w1 ⟨rfl, hl1, ho1⟩
  have hs1 := ho1.size
  have hgl : ¬ (w.heap.size = gl ∧ t.labels ≠ []) := fun ⟨h1, h2⟩ => by
    rcases HL.out with h | ⟨_, h, h'⟩
    · exact h2 h
    · have := HS.out gl h
      omega
  have p1 : Whole1 w1 w.heap.size 27 #[.int .i64 t.kind, .slice L t.labels.length lc, .slice A t.args.length ac] := (ho1.block _ p0.lt hgl).trans p0
  have c1 : w1.cell? ⟨w.heap.size, 2, none⟩ = some (.slice A t.args.length ac) := p1.cell 2
  have ha1 := Lib.hid ((HA.out.keep (fun b _ hb => HK.out b hb)).keep (fun b hb hlt => ho1.block b hlt fun h => hb.2 h.1))
  clear p0 p1
  go_wp2_with fail
  refine (markMany_any t _ A ac (k + t.labels.length) w1 ha1.out (by omega) (by omega)).mono ?_
  rintro e w2 ⟨rfl, ht2, ho2⟩
  have HT := Lib.hid ht2
  have hfin : Hid (TyIn w2 S (.agg #[.int .i64 t.kind, .slice L t.labels.length lc, .slice A t.args.length ac]) (markTy t k)) := Lib.hid (markIn k hn (by omega) (by
      rcases hl1 with h | h
      · exact .inl h
      · rcases HL.out with h5 | ⟨h5, h6, _⟩
        · exact .inl h5
        · exact .inr ⟨h5, h6, h.same (ho2.block gl h.lt fun h => h.2 rfl)⟩) HT.out (fun b hb => hb))
  have hO : OnlyIn S w w2 := (OnlyIn.of_below hb0).trans ((ho1.wide fun b hb => by
    rcases HL.out with h5 | ⟨_, h6, _⟩
    · exact absurd h5 hb.2
    · rw [hb.1]; exact h6).trans (ho2.wide fun b hb => hb.1))
  clear ht2 hl1
  go_wp2
  go_ret
  exact ⟨by rw [hc.out, ← Nat.add_assoc]; rfl, hfin.out, hO⟩

set_option maxHeartbeats 400000 in
theorem heldLabels (A : Option Addr) (c k n : Nat) (w : World) (hA : StrsAt w w.heap.size A (marks k n)) (h0 : 0 < k) (h1 : k + n ≤ 2 ^ 62) :
    Calls Try.prog 73 #[.slice A n c, .int .i64 k] w (HeldTo w (k + n)) := by
  go_enter Try.func73, Try.ntmps73
  go_wp2
  go_loopw [1, 5] (fun m i wr => ∃ j : Nat, j ≤ n ∧ i = .int .i64 j ∧ m = .int .i64 ((k + j : Nat) : Int) ∧ Below w.heap.size w wr) (fun _ i _ => n - (intOf i).toNat)
  case atStart => exact ⟨0, Nat.zero_le _, rfl, rfl, Below.refl _ _⟩
  case round =>
    obtain ⟨j, hj, rfl, rfl, hb⟩ := hrel
    by_cases hlt : j < n
    · obtain ⟨g, off, rfl, hgl0, hc0⟩ := (hA.below hb) j (by rw [marks_len]; exact hlt)
      have hc : wr.cell? ⟨g, off + j, none⟩ = some (.string (markB (k + j))) := by
        rw [hc0]
        simp [marks]
      have hgl : g < wr.heap.size := by have := hb.size; omega
      clear hc0 hA
      go_wp2
      go_region_held3 (fun w' => w'.cell? ⟨g, off + j, none⟩ = some (.string (markB (k + j))) ∧ Below wr.heap.size wr w') ((first | exact ⟨hc, (Below.refl _ _).drew⟩ | exact ⟨hk1, hk2⟩))
        (first | (go_at_call 92; refine (markText_any (k + j) _ (by omega) (by omega)).mono ?_; rintro e w' ⟨rfl, hb1⟩; have hk2 := (Below.refl wr.heap.size wr).drew.trans hb1; have hk1 := (hk2.cell (p := ⟨g, off + j, none⟩) hgl).trans hc))
      go_wp2
      go_roundw
      case rel => exact ⟨j + 1, by omega, by go_num, by go_num, hb.trans (hk2.mono hb.size)⟩
      case measure => simp [intOf]; omega
    · have hje : j = n := by omega
      subst hje
      go_wp2
      go_ret
      exact ⟨rfl, hb⟩

theorem marked_elem {w : World} {B k : Nat} {A : Option Addr} {ts : List Ty} (h : TysAt w B A (markTys ts k)) (i : Nat) (hi : i < ts.length) :
    ∃ b off L lc A' ac, A = some ⟨b, off, none⟩ ∧ b < B ∧ w.cell? ⟨b, off + i * 3, none⟩ = some (.int .i64 ((k + cntTys (ts.take i) : Nat) : Int)) ∧ w.cell? ⟨b, off + i * 3 + 1, none⟩ = some (.slice L ts[i].labels.length lc) ∧
      w.cell? ⟨b, off + i * 3 + 2, none⟩ = some (.slice A' ts[i].args.length ac) ∧ StrsAt w B L (marks (k + cntTys (ts.take i) + 1) ts[i].labels.length) ∧ TysAt w B A' (markTys ts[i].args (k + cntTys (ts.take i) + 1 + ts[i].labels.length)) := by
  have hl := markTys_len ts k
  have hi' : i < (markTys ts k).length := by omega
  obtain ⟨b, off, L, lc, A', ac, h1, h2, h3, h4, h5, _, _, h6, h7, _⟩ := h.elem i hi'
  have hg := markTys_get ts k i hi
  rw [List.getElem?_eq_getElem hi'] at hg
  have hg' := Option.some.inj hg
  rw [hg'] at h3 h4 h5 h6 h7
  refine ⟨b, off, L, lc, A', ac, h1, h2, ?_, ?_, ?_, ?_, ?_⟩
  · revert h3; cases ts[i]; rw [markTy]; exact id
  · revert h4; cases ts[i]; rw [markTy]; simp only [setKind, Ty.labels, marks_len]; exact id
  · revert h5; cases ts[i]; rw [markTy]; simp only [setKind, Ty.args, markTys_len]; exact id
  · revert h6; cases ts[i]; rw [markTy]; exact id
  · revert h7; cases ts[i]; rw [markTy]; exact id

end Go.Proofs.Ytinkanbaiflhdaa
