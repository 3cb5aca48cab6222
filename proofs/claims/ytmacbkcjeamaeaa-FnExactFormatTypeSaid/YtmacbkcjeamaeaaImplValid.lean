/- impl.IsValidType. -/
import Derived.Test.YtmacbkcjeamaeaaHasForms
import Derived.Test.YtmacbkcjeamaeaaImplSize
import Derived.Test.YtmacbkcjeamaeaaSpecTy5
namespace Go.Proofs.Ytmacbkcjeamaeaa
set_option maxRecDepth 100000
open Go.RowKit

set_option maxHeartbeats 1000000 in
theorem implValid_any (t : Ty) (v : Value) (w : World) (hv : OwnT w v t) (hsz : szTy t ≤ 1048576) : Calls Try.prog 29 #[v] w (BoolIs (validB t) w) := by
  have hss := size_le_sz t
  have HF := Lib.hid (fun V W h => hasForms_any t V 8 W h hsz (by omega))
  have HS := Lib.hid (fun V W h => implSizeOf_any t V W h (by omega))
  obtain ⟨L, lc, A, ac, rfl, _⟩ := hv.open
  obtain ⟨hb0, p0, hs0⟩ := boxes1 w 27 #[.int .i64 t.kind, .slice L t.labels.length lc, .slice A t.args.length ac]
  have hv0 := hv.up hb0
  clear hv hs0
  go_enter Try.func29, Try.ntmps29
  go_wp2_with fail
  generalize w.alloc (.cells #[.int .i64 t.kind, .slice L t.labels.length lc, .slice A t.args.length ac] 27) = w0 at *
  refine (HF.out _ w0 hv0.here).mono ?_
  rintro e w1 ⟨rfl, hb1⟩
  have hb1' := hb0.trans (hb1.mono hb0.size)
  have p1 := p0.below hb1 p0.lt
  have hv1 := hv0.up hb1
  have c0 : w1.cell? ⟨w.heap.size, 0, none⟩ = some (.int .i64 t.kind) := p1.cell 0
  have c1 : w1.cell? ⟨w.heap.size, 1, none⟩ = some (.slice L t.labels.length lc) := p1.cell 1
  have c2 : w1.cell? ⟨w.heap.size, 2, none⟩ = some (.slice A t.args.length ac) := p1.cell 2
  clear hv0 p0 hb0 hb1
  cases hf : formTy t && decide (depthTy t ≤ 8)
  · have hr := Lib.hid (show validB t = false by
      unfold validB
      rw [Bool.and_eq_false_iff] at hf ⊢
      rcases hf with h | h
      · exact .inr h
      · left
        rw [h, Bool.and_false])
    clear hf
    go_wp2
    go_ret
    exact ⟨by rw [hr.out]; rfl, hb1'⟩
  · have HFT := Lib.hid hf
    clear hf
    go_wp2_with fail
    refine (HS.out _ w1 hv1).mono ?_
    rintro e w2 ⟨rfl, hb2⟩
    have hb2' := hb1'.trans (hb2.mono hb1'.size)
    by_cases h30 : sizeTy t ≤ 30
    · have i1 : (sizeTy t : Int) ≤ 30 := by omega
      have hr := Lib.hid (show validB t = true by
        have := HFT.out
        rw [Bool.and_eq_true_iff] at this
        unfold validB
        rw [this.1, this.2]
        simp [h30])
      clear h30
      go_wp2
      go_ret
      exact ⟨by rw [hr.out]; rfl, hb2'⟩
    · have i1 : decide ((sizeTy t : Int) ≤ 30) = false := by rw [decide_eq_false_iff_not]; omega
      have hr := Lib.hid (show validB t = false by unfold validB; simp [h30])
      clear h30
      go_wp2
      go_ret
      exact ⟨by rw [hr.out]; rfl, hb2'⟩

end Go.Proofs.Ytmacbkcjeamaeaa
