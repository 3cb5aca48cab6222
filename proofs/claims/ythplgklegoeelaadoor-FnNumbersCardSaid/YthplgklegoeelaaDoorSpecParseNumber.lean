/- spec.ParseNumber. -/
import Derived.Test.YthplgklegoeelaaDoorRead
namespace Go.Proofs.YthplgklegoeelaaDoor
open Go.RowKit

/-- What the model answers. -/
def SpecPostNumber (l : List UInt8) (w : World) (e : Ending) (w' : World) : Prop :=
  ((∃ n : Int, e = .returned (.tuple #[.int .i64 n, .bool true]) ∧ l = Lib.itoa n ∧ 0 ≤ n ∧ n ≤ 999999) ∨
    (e = .returned (.tuple #[.int .i64 0, .bool false]) ∧ ∀ n : Int, 0 ≤ n → n ≤ 999999 → l ≠ Lib.itoa n)) ∧ Below w.heap.size w w'

set_option maxHeartbeats 400000 in
theorem specParseNumber_any (s : ByteArray) (w : World) (hs : s.size ≤ 1048576) :
    Calls Tryd.prog 16 #[.string s] w (SpecPostNumber s.data.toList w) := by
  have hr := Lib.hid (read_any s 5 w hs (by omega))
  go_enter Tryd.func16, Tryd.ntmps16
  go_wp2_with fail
  refine hr.out.mono ?_
  rintro e w1 ⟨⟨n, rfl, hn, hb⟩ | ⟨rfl, hno⟩, hb1⟩
  · have H := Lib.hid hn
    clear hn
    by_cases h0 : n < 0
    · go_wp2
      go_ret2
      exact ⟨.inr ⟨rfl, fun m h1 h2 e => by
        have := itoa_inj n m (by omega) (by omega) (by omega) (by omega) (H.out.symm.trans e)
        omega⟩, hb1⟩
    · go_wp2
      go_ret2
      exact ⟨.inl ⟨n, rfl, H.out, by omega, by omega⟩, hb1⟩
  · have H := Lib.hid hno
    clear hno
    go_wp2
    go_ret2
    exact ⟨.inr ⟨rfl, fun n h0 h1 => H.out n (by omega)⟩, hb1⟩

end Go.Proofs.YthplgklegoeelaaDoor
