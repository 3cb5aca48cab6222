/- The draws of kinds. -/
import Derived.Test.YtakicpcfghejiaaDoorCur
namespace Go.Proofs.YtakicpcfghejiaaDoor
open Go.RowKit

theorem kDrawKindText_any (A : Option Addr) (n cap : Nat) (w : World) (hA : BytesAt w w.heap.size A n) (hn : n ≤ 2 ^ 47) :
    Calls Tryd.prog 9 #[.slice A n cap] w fun e w' => (∃ x : Int, e = .returned (.int .i64 x) ∧ -1 ≤ x ∧ x ≤ 6) ∧ Below w.heap.size w w' := by
  have hc := Lib.hid (l1New_any A n cap w hA hn)
  clear hA
  go_enter Tryd.func9, Tryd.ntmps9
  go_wp2_with fail
  refine hc.out.mono ?_
  rintro e w1 ⟨p, rfl, hc1, hb1⟩
  go_wp2_with fail
  refine (l1Below_any p _ 8 _ hc1 (by omega) (by omega)).mono ?_
  rintro e w2 ⟨⟨x, rfl, hx0, hx1⟩, hc2, hg2⟩
  have hb2 := below_only hb1 hg2 hb1.size hc1.low
  go_wp2
  go_ret
  exact ⟨⟨_, rfl, by omega, by omega⟩, hb2⟩

/-- Two ints are drawn. -/
def GivesTwo (w : World) (e : Ending) (w' : World) : Prop := (∃ x y : Int, e = .returned (.tuple #[.int .i64 x, .int .i64 y]) ∧ -1 ≤ x ∧ x ≤ 6 ∧ -1 ≤ y ∧ y ≤ 6) ∧ Below w.heap.size w w'

theorem kTwo_any (A : Option Addr) (n cap : Nat) (w : World) (hA : BytesAt w w.heap.size A n) (hn : n ≤ 2 ^ 47) :
    Calls Tryd.prog 20 #[.slice A n cap] w (GivesTwo w) := by
  have hc := Lib.hid (l1New_any A n cap w hA hn)
  clear hA
  go_enter Tryd.func20, Tryd.ntmps20
  go_wp2_with fail
  refine hc.out.mono ?_
  rintro e w1 ⟨p, rfl, hc1, hb1⟩
  go_wp2_with fail
  refine (l1Below_any p _ 8 _ hc1 (by omega) (by omega)).mono ?_
  rintro e w2 ⟨⟨x, rfl, hx0, hx1⟩, hc2, hg2⟩
  have hb2 := below_only hb1 hg2 hb1.size hc1.low
  go_wp2_with fail
  refine (l1Below_any p _ 8 _ hc2 (by omega) (by omega)).mono ?_
  rintro e w3 ⟨⟨y, rfl, hy0, hy1⟩, hc3, hg3⟩
  have hb3 := below_only hb2 hg3 hb2.size hc1.low
  go_wp2
  exact bodyPost_ret (v := .tuple #[.int .i64 (x - 1), .int .i64 (y - 1)]) (by simp [results, Tryd.results20, go_sem]) rfl ⟨⟨_, _, rfl, by omega, by omega, by omega, by omega⟩, hb3⟩

theorem kDrawJoinKinds_any (A : Option Addr) (n cap : Nat) (w : World) (hA : BytesAt w w.heap.size A n) (hn : n ≤ 2 ^ 47) :
    Calls Tryd.prog 8 #[.slice A n cap] w (GivesTwo w) := by
  have hc := Lib.hid (kTwo_any A n cap w hA hn)
  clear hA
  go_enter Tryd.func8, Tryd.ntmps8
  go_wp2_with fail
  refine hc.out.mono ?_
  rintro e w1 ⟨⟨x, y, rfl, hx0, hx1, hy0, hy1⟩, hb1⟩
  go_wp2
  exact bodyPost_ret (v := .tuple #[.int .i64 x, .int .i64 y]) (by simp [results, Tryd.results8, go_sem]) rfl ⟨⟨_, _, rfl, by omega, by omega, by omega, by omega⟩, hb1⟩

end Go.Proofs.YtakicpcfghejiaaDoor
