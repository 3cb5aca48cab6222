/- impl.ParseInt and impl.ParseNumber: a number and true, or 0 and false. -/
import Derived.Test.YthplgklegoeelaaDoorIntW
import Derived.Defers
import Derived.Recover
namespace Go.Proofs.YthplgklegoeelaaDoor
open Go.RowKit

theorem catchI_panicking (u : TypeId) (pv : Value) (older : List PanicEntry) (w : World) :
    CallsD Tryd.prog 28 #[] (.panicking ({ v := .iface u pv, recovered := false } :: older)) w fun e u' w' =>
      e = .returned (.tuple #[]) ∧ u' = .panicking ({ v := .iface u pv, recovered := true } :: older) ∧ w' = w := by
  refine callsD_of_wpS Tryd.func28 rfl fun c₀ cs hu => ?_
  apply wpS_region
  simp [wpOpsS, go_sem, recoverD, hu, Tryd.ntmps28, bodyPostS, results, Tryd.results28]

theorem catchI_idle (w : World) :
    CallsD Tryd.prog 28 #[] .returning w fun e u' w' => e = .returned (.tuple #[]) ∧ u' = .returning ∧ w' = w := by
  refine callsD_of_wpS Tryd.func28 rfl fun c₀ cs hu => ?_
  apply wpS_region
  simp [wpOpsS, go_sem, recoverD, hu, Tryd.ntmps28, bodyPostS, results, Tryd.results28]
  cases c₀
  simp_all

set_option maxHeartbeats 400000 in
theorem implParseInt_yes (s : ByteArray) (n : Int) (w : World) (hs : s.size ≤ 1048576) (h0 : -999999999999 ≤ n) (h1 : n ≤ 999999999999) (hn : s.data.toList = Lib.itoa n) (ht : Pow10At w) (hsz : 0 < w.heap.size) :
    Calls Tryd.prog 12 #[.string s] w fun e w' => e = .returned (.tuple #[.int .i64 n, .bool true]) ∧ Below w.heap.size w w' := by
  have hw := Lib.hid (within_yes s (-999999999999) 999999999999 n w hs h0 h1 (by omega) (by omega) hn ht hsz)
  have hmf : ∀ (fn : Fn) (first cap : Array Value) (w : World), (Instr.makeFunc fn first cap).run Tryd.prog w = .ok (.func fn first cap) w := fun _ _ _ _ => rfl
  clear hn ht
  go_enter_defers Tryd.func12, Tryd.ntmps12
  go_wp2_with fail
  refine hw.out.mono ?_
  rintro e w1 ⟨rfl, hb1⟩
  go_wp2
  refine leaves_cons (f := 28) (args := #[]) (by simp) (by simp [go_sem]) ?_
  refine (catchI_idle _).mono ?_
  rintro e u' w'' ⟨rfl, rfl, rfl⟩
  simp [Leaves, settle, results, Tryd.results12, go_sem]
  exact hb1

set_option maxHeartbeats 400000 in
theorem implParseInt_no (s : ByteArray) (w : World) (hs : s.size ≤ 1048576) (hn : ∀ n, -999999999999 ≤ n → n ≤ 999999999999 → s.data.toList ≠ Lib.itoa n) (ht : Pow10At w) (hE : ErrsAt w) (hsz : 0 < w.heap.size) :
    Calls Tryd.prog 12 #[.string s] w fun e w' => e = .returned (.tuple #[.int .i64 0, .bool false]) ∧ Below w.heap.size w w' := by
  have hw := Lib.hid (within_no s (-999999999999) 999999999999 w hs (by omega) (by omega) hn ht hE hsz)
  have hmf : ∀ (fn : Fn) (first cap : Array Value) (w : World), (Instr.makeFunc fn first cap).run Tryd.prog w = .ok (.func fn first cap) w := fun _ _ _ _ => rfl
  clear hn ht hE
  go_enter_defers Tryd.func12, Tryd.ntmps12
  go_wp2_with fail
  refine hw.out.mono ?_
  rintro e w1 ⟨⟨t, v, rfl⟩, hb1⟩
  go_wp2
  refine leaves_cons (f := 28) (args := #[]) (by simp) (by simp [go_sem]) ?_
  refine (catchI_panicking _ _ [] _).mono ?_
  rintro e u' w'' ⟨rfl, rfl, rfl⟩
  simp [Leaves, settle, results, Tryd.results12, go_sem]
  exact hb1

theorem catchN_panicking (u : TypeId) (pv : Value) (older : List PanicEntry) (w : World) :
    CallsD Tryd.prog 32 #[] (.panicking ({ v := .iface u pv, recovered := false } :: older)) w fun e u' w' =>
      e = .returned (.tuple #[]) ∧ u' = .panicking ({ v := .iface u pv, recovered := true } :: older) ∧ w' = w := by
  refine callsD_of_wpS Tryd.func32 rfl fun c₀ cs hu => ?_
  apply wpS_region
  simp [wpOpsS, go_sem, recoverD, hu, Tryd.ntmps32, bodyPostS, results, Tryd.results32]

theorem catchN_idle (w : World) :
    CallsD Tryd.prog 32 #[] .returning w fun e u' w' => e = .returned (.tuple #[]) ∧ u' = .returning ∧ w' = w := by
  refine callsD_of_wpS Tryd.func32 rfl fun c₀ cs hu => ?_
  apply wpS_region
  simp [wpOpsS, go_sem, recoverD, hu, Tryd.ntmps32, bodyPostS, results, Tryd.results32]
  cases c₀
  simp_all

set_option maxHeartbeats 400000 in
theorem implParseNumber_yes (s : ByteArray) (n : Int) (w : World) (hs : s.size ≤ 1048576) (h0 : 0 ≤ n) (h1 : n ≤ 999999) (hn : s.data.toList = Lib.itoa n) (ht : Pow10At w) (hsz : 0 < w.heap.size) :
    Calls Tryd.prog 15 #[.string s] w fun e w' => e = .returned (.tuple #[.int .i64 n, .bool true]) ∧ Below w.heap.size w w' := by
  have hw := Lib.hid (within_yes s (0) 999999 n w hs h0 h1 (by omega) (by omega) hn ht hsz)
  have hmf : ∀ (fn : Fn) (first cap : Array Value) (w : World), (Instr.makeFunc fn first cap).run Tryd.prog w = .ok (.func fn first cap) w := fun _ _ _ _ => rfl
  clear hn ht
  go_enter_defers Tryd.func15, Tryd.ntmps15
  go_wp2_with fail
  refine hw.out.mono ?_
  rintro e w1 ⟨rfl, hb1⟩
  go_wp2
  refine leaves_cons (f := 32) (args := #[]) (by simp) (by simp [go_sem]) ?_
  refine (catchN_idle _).mono ?_
  rintro e u' w'' ⟨rfl, rfl, rfl⟩
  simp [Leaves, settle, results, Tryd.results15, go_sem]
  exact hb1

set_option maxHeartbeats 400000 in
theorem implParseNumber_no (s : ByteArray) (w : World) (hs : s.size ≤ 1048576) (hn : ∀ n, 0 ≤ n → n ≤ 999999 → s.data.toList ≠ Lib.itoa n) (ht : Pow10At w) (hE : ErrsAt w) (hsz : 0 < w.heap.size) :
    Calls Tryd.prog 15 #[.string s] w fun e w' => e = .returned (.tuple #[.int .i64 0, .bool false]) ∧ Below w.heap.size w w' := by
  have hw := Lib.hid (within_no s (0) 999999 w hs (by omega) (by omega) hn ht hE hsz)
  have hmf : ∀ (fn : Fn) (first cap : Array Value) (w : World), (Instr.makeFunc fn first cap).run Tryd.prog w = .ok (.func fn first cap) w := fun _ _ _ _ => rfl
  clear hn ht hE
  go_enter_defers Tryd.func15, Tryd.ntmps15
  go_wp2_with fail
  refine hw.out.mono ?_
  rintro e w1 ⟨⟨t, v, rfl⟩, hb1⟩
  go_wp2
  refine leaves_cons (f := 32) (args := #[]) (by simp) (by simp [go_sem]) ?_
  refine (catchN_panicking _ _ [] _).mono ?_
  rintro e u' w'' ⟨rfl, rfl, rfl⟩
  simp [Leaves, settle, results, Tryd.results15, go_sem]
  exact hb1

end Go.Proofs.YthplgklegoeelaaDoor
