/- The default of a type; spec.l5Int, spec.l5Bool. -/
import Derived.Test.YtlmbnefoobameaaDoorSpecVaForm
import Derived.Test.YtlmbnefoobameaaDoorSpecCopy
import Derived.Test.YtlmbnefoobameaaDoorVGather
namespace Go.Proofs.YtlmbnefoobameaaDoor
set_option maxRecDepth 100000
open Go.RowKit
attribute [local go_sem ↓] Go.wp_at_zero Go.wp_at_succ

mutual
/-- The default of a type. -/
def defVa : Ty → Va
  | .mk k ls ts => if k = 1 then .mk 1 0 ⟨#[]⟩ [] [] else if k = 2 then .mk 2 0 ⟨#[]⟩ [] [] else if k = 3 then .mk 3 0 ⟨#[]⟩ ls (defVas ts) else if k = 4 then .mk 4 0 (ls.headD ⟨#[]⟩) [] (defHead ts) else .mk 5 0 ⟨#[]⟩ [] []
def defVas : List Ty → List Va | [] => [] | t :: r => defVa t :: defVas r
def defHead : List Ty → List Va | [] => [] | t :: _ => [defVa t]
end
theorem defVas_len : ∀ (ts : List Ty), (defVas ts).length = ts.length
  | [] => by rw [defVas]; rfl
  | t :: r => by rw [defVas, List.length_cons, List.length_cons, defVas_len r]
theorem defVas_at : ∀ (ts : List Ty) (i : Nat) (h : i < ts.length) (h' : i < (defVas ts).length), (defVas ts)[i] = defVa ts[i]
  | t :: r, 0, _, _ => by simp [defVas]
  | t :: r, i + 1, h, h' => by
    have := defVas_at r i (by simpa using h) (by rw [defVas_len]; simpa using h)
    simp only [defVas, List.getElem_cons_succ]
    exact this
theorem defVa_1 (ls : List ByteArray) (ts : List Ty) : defVa (.mk 1 ls ts) = .mk 1 0 ⟨#[]⟩ [] [] := by rw [defVa]; simp
theorem defVa_2 (ls : List ByteArray) (ts : List Ty) : defVa (.mk 2 ls ts) = .mk 2 0 ⟨#[]⟩ [] [] := by rw [defVa]; simp
theorem defVa_3 (ls : List ByteArray) (ts : List Ty) : defVa (.mk 3 ls ts) = .mk 3 0 ⟨#[]⟩ ls (defVas ts) := by rw [defVa]; simp
theorem defVa_4 (ls : List ByteArray) (ts : List Ty) : defVa (.mk 4 ls ts) = .mk 4 0 (ls.headD ⟨#[]⟩) [] (defHead ts) := by rw [defVa]; simp
theorem defVa_5 (ls : List ByteArray) (ts : List Ty) : defVa (.mk 5 ls ts) = .mk 5 0 ⟨#[]⟩ [] [] := by rw [defVa]; simp

theorem VasIn.nil (w : World) (S : Nat → Prop) (A : Option Addr) : VasIn w S A [] := ⟨Nat.zero_le _, 0, fun _ => .bool false, fun _ _ => False, .inl rfl, fun i h => absurd h (by simp), fun i _ h => absurd h (by simp), fun i h => absurd h (by simp)⟩
theorem VaIn.leaf (w : World) (S : Nat → Prop) (k n : Int) (nm : ByteArray) (L A : Option Addr) (lc ac : Nat) (h : nm.size ≤ maxLen) : VaIn w S (.agg #[.int .i64 k, .int .i64 n, .string nm, .slice L 0 lc, .slice A 0 ac]) (.mk k n nm [] []) :=
  VaIn.of (t := .mk k n nm [] []) (gl := 0) (Sa := fun _ => False) h (Nat.zero_le _) (fun i h => absurd h (by simp [Va.labels])) (.inl rfl) (VasIn.nil w _ A) (fun b hb => hb.elim)

/-- A leaf is handed back. -/
def LeafIs (k n : Int) (w : World) (e : Ending) (w' : World) : Prop := e = .returned (.agg #[.int .i64 k, .int .i64 n, .string ⟨#[]⟩, .slice none 0 0, .slice none 0 0]) ∧ Below w.heap.size w w'

set_option maxHeartbeats 400000 in
theorem l5Int_any (n : Int) (w : World) : Calls Tryd.prog 70 #[.int .i64 n] w (LeafIs 1 n w) := by
  go_enter Tryd.func70, Tryd.ntmps70
  go_wp2
  exact bodyPost_ret (v := .agg #[.int .i64 1, .int .i64 n, .string ⟨#[]⟩, .slice none 0 0, .slice none 0 0]) (by simp [results, Tryd.results70, go_sem]) rfl ⟨rfl, (Below.refl _ _).alloc (Nat.le_refl _) _⟩

theorem l1Bit_any (b : Bool) (w : World) : Calls Tryd.prog 118 #[.bool b] w fun e w' => e = .returned (.int .i64 (if b then 1 else 0)) ∧ w' = w := by
  cases b
  · go_enter Tryd.func118, Tryd.ntmps118
    go_wp2
    go_ret
    exact ⟨rfl, rfl⟩
  · go_enter Tryd.func118, Tryd.ntmps118
    go_wp2
    go_ret
    exact ⟨rfl, rfl⟩

set_option maxHeartbeats 400000 in
theorem l5Bool_any (b : Bool) (w : World) : Calls Tryd.prog 71 #[.bool b] w (LeafIs 2 (if b then 1 else 0) w) := by
  have HB := Lib.hid (fun W => l1Bit_any b W)
  generalize (if b then (1 : Int) else 0) = x at *
  go_enter Tryd.func71, Tryd.ntmps71
  go_wp2_with fail
  refine (HB.out _).mono ?_
  rintro e w1 ⟨rfl, rfl⟩
  go_wp2
  exact bodyPost_ret (v := .agg #[.int .i64 2, .int .i64 x, .string ⟨#[]⟩, .slice none 0 0, .slice none 0 0]) (by simp [results, Tryd.results71, go_sem]) rfl ⟨rfl, (Below.refl _ _).alloc (Nat.le_refl _) _⟩

end Go.Proofs.YtlmbnefoobameaaDoor
