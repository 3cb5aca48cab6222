/- impl.integerWithin: the integer, or a panic. -/
import Derived.Test.YthplgklegoeelaaDoorFmt
import Derived.Test.YthplgklegoeelaaDoorAtoi
import Derived.WalkKit
import Derived.BigGuard
import Derived.WalkLawsBesides
import Derived.Lib.IfaceNeq
namespace Go.Proofs.YthplgklegoeelaaDoor
open Go.RowKit

/-- A panic. -/
def Panics (w : World) (e : Ending) (w' : World) : Prop := (∃ t v, e = .panicked [{ v := .iface t v, recovered := false }]) ∧ Below w.heap.size w w'

theorem str_of_list {s : ByteArray} {l : List UInt8} (h : s.data.toList = l) : s = ⟨l.toArray⟩ := by
  cases s
  simp at h
  subst h
  simp

set_option maxHeartbeats 400000 in
theorem within_yes (s : ByteArray) (lo hi n : Int) (w : World) (hs : s.size ≤ 1048576) (h0 : lo ≤ n) (h1 : n ≤ hi) (hlo : -(2 ^ 63) ≤ lo) (hhi : hi ≤ 2 ^ 63 - 1) (hn : s.data.toList = Lib.itoa n) (ht : Pow10At w) (hsz : 0 < w.heap.size) :
    Calls Tryd.prog 29 #[.string s, .int .i64 lo, .int .i64 hi] w fun e w' => e = .returned (.int .i64 n) ∧ Below w.heap.size w w' := by
  have ha := Lib.hid (atoi_ok s w hs n (by rw [hn]; exact atoi_itoa n (by omega) (by omega)))
  obtain rfl := str_of_list hn
  clear hn
  have hl1 : ¬ n < lo := by omega
  have hl2 : ¬ hi < n := by omega
  go_enter Tryd.func29, Tryd.ntmps29
  go_wp2_with fail
  refine ha.out.mono ?_
  rintro e w1 ⟨rfl, hb1⟩
  have ht1 := Lib.hid (implFormatInt_any n w1 (by omega) (by omega) (ht.below hb1 hsz))
  clear ht ha
  go_wp2_with fail
  refine ht1.out.mono ?_
  rintro e w2 ⟨rfl, hb2⟩
  go_wp2
  go_ret
  exact ⟨rfl, hb1.trans (hb2.mono hb1.size)⟩

set_option maxHeartbeats 400000 in
theorem within_no (s : ByteArray) (lo hi : Int) (w : World) (hs : s.size ≤ 1048576) (hlo : -(2 ^ 63) ≤ lo) (hhi : hi ≤ 2 ^ 63 - 1) (hn : ∀ n, lo ≤ n → n ≤ hi → s.data.toList ≠ Lib.itoa n) (ht : Pow10At w) (hE : ErrsAt w) (hsz : 0 < w.heap.size) :
    Calls Tryd.prog 29 #[.string s, .int .i64 lo, .int .i64 hi] w (Panics w) := by
  have hN := Lib.hid hn
  clear hn
  by_cases hok : ∃ v, Lib.atoiAll s.data.toList = .ok v
  · obtain ⟨v, hv⟩ := hok
    have ha := Lib.hid (atoi_ok s w hs v hv)
    clear hv
    by_cases hl1 : v < lo
    · clear ht hE
      go_enter Tryd.func29, Tryd.ntmps29
      go_wp2_with fail
      refine ha.out.mono ?_
      rintro e w1 ⟨rfl, hb1⟩
      go_wp2
      exact ⟨rfl, ⟨_, _, rfl⟩, hb1⟩
    · by_cases hl2 : hi < v
      · clear ht hE
        go_enter Tryd.func29, Tryd.ntmps29
        go_wp2_with fail
        refine ha.out.mono ?_
        rintro e w1 ⟨rfl, hb1⟩
        go_wp2
        exact ⟨rfl, ⟨_, _, rfl⟩, hb1⟩
      · have hne : (Lib.itoa v == s.toList) = false := by
          rw [beq_eq_false_iff_ne, ByteArray.toList_eq]
          intro e
          exact hN.out v (by omega) (by omega) e.symm
        clear hE
        go_enter Tryd.func29, Tryd.ntmps29
        go_wp2_with fail
        refine ha.out.mono ?_
        rintro e w1 ⟨rfl, hb1⟩
        have ht1 := Lib.hid (implFormatInt_any v w1 (by omega) (by omega) (ht.below hb1 hsz))
        clear ht ha
        go_wp2_with fail
        refine ht1.out.mono ?_
        rintro e w2 ⟨rfl, hb2⟩
        go_wp2
        exact ⟨rfl, ⟨_, _, rfl⟩, hb1.trans (hb2.mono hb1.size)⟩
  · have ha := Lib.hid (atoi_err s w hs hE (fun v hv => hok ⟨v, hv⟩))
    clear ht hE
    go_enter Tryd.func29, Tryd.ntmps29
    go_wp2_with fail
    refine ha.out.mono ?_
    rintro e w1 ⟨n, t, p, rfl, hb1⟩
    go_wp2
    exact ⟨rfl, ⟨_, _, rfl⟩, hb1⟩

end Go.Proofs.YthplgklegoeelaaDoor
