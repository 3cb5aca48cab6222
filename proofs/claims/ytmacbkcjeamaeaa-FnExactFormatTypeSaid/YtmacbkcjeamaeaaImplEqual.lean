/- impl.EqualType. -/
import Derived.Test.YtmacbkcjeamaeaaEqTrees
namespace Go.Proofs.Ytmacbkcjeamaeaa
set_option maxRecDepth 100000
open Go.RowKit

set_option maxHeartbeats 1000000 in
theorem implEqual_any (a b : Ty) (va vb : Value) (w : World) (ha : OwnT w va a) (hb : OwnT w vb b) (hsz : sizeTy a ≤ 2000000) : Calls Try.prog 14 #[va, vb] w (BoolIs (eqTyB a b) w) := by
  obtain ⟨L, lc, A, ac, rfl, _⟩ := ha.open
  obtain ⟨L', lc', A', ac', rfl, _⟩ := hb.open
  obtain ⟨hb0, p0, q0, hs0⟩ := boxes2 w 27 27 #[.int .i64 a.kind, .slice L a.labels.length lc, .slice A a.args.length ac] #[.int .i64 b.kind, .slice L' b.labels.length lc', .slice A' b.args.length ac']
  have HE := Lib.hid (equalTrees_any a b _ _ _ (ha.up hb0) (hb.up hb0) hsz)
  clear ha hb hs0
  go_enter Try.func14, Try.ntmps14
  go_wp2_with fail
  refine HE.out.mono ?_
  rintro e w1 ⟨rfl, hb1⟩
  go_wp2
  go_ret
  exact ⟨rfl, hb0.trans (hb1.mono hb0.size)⟩

end Go.Proofs.Ytmacbkcjeamaeaa
