/- l1Once. -/
import Derived.Test.YtlmbnefoobameaaDoorCur

namespace Go.Proofs.YtlmbnefoobameaaDoor
open Go.RowKit

/-- A bool is handed back; only the cursor has turned. -/
def DrawnBool (w : World) (B p : Nat) (e : Ending) (w' : World) : Prop :=
  (∃ x : Bool, e = .returned (.bool x)) ∧ CurAt w' B p ∧ w.grownBy w' (some p)

theorem l1Once_any (p B : Nat) (n : Int) (w : World) (hc : CurAt w B p) (hn : 1 ≤ n) (hn2 : n ≤ 2 ^ 40) :
    Calls Tryd.prog 37 #[.pointer (some ⟨p, 0, none⟩), .int .i64 n] w (DrawnBool w B p) := by
  have h1 := Lib.hid (l1Below_any p B n w hc hn hn2)
  clear hc
  go_enter Tryd.func37, Tryd.ntmps37
  go_wp2_with fail
  refine h1.out.mono ?_
  rintro e w1 ⟨⟨x, rfl, hx0, hx1⟩, hc1, ho1⟩
  go_wp2
  go_ret
  exact ⟨⟨_, rfl⟩, hc1, ho1⟩

end Go.Proofs.YtlmbnefoobameaaDoor

namespace Go.Proofs.YtlmbnefoobameaaDoor
open Go.RowKit

/-- The slice of address A holds the numbers zs. -/
def IntsAt (w : World) (A : Option Addr) (zs : List Int) : Prop :=
  ∀ i, (h : i < zs.length) → ∃ b off, A = some ⟨b, off, none⟩ ∧ w.cell? ⟨b, off + i, none⟩ = some (.int .i64 zs[i])
def DrawnOf (w : World) (B p : Nat) (zs : List Int) (e : Ending) (w' : World) : Prop :=
  (∃ x : Int, e = .returned (.int .i64 x) ∧ x ∈ zs) ∧ CurAt w' B p ∧ w.grownBy w' (some p)

set_option maxHeartbeats 1000000 in
theorem l1PickInt_any (p B c : Nat) (A : Option Addr) (zs : List Int) (w : World) (hc : CurAt w B p) (hA : IntsAt w A zs) (hne : ∀ q b off, A = some ⟨b, off, q⟩ → b ≠ p) (h0 : 0 < zs.length) (h1 : zs.length ≤ 1000000) :
    Calls Tryd.prog 67 #[.pointer (some ⟨p, 0, none⟩), .slice A zs.length c] w (DrawnOf w B p zs) := by
  have hd := Lib.hid (l1Below_any p B zs.length w hc (by omega) (by omega))
  have hpl := hc.lt
  clear hc
  go_enter Tryd.func67, Tryd.ntmps67
  go_wp2_with fail
  refine hd.out.mono ?_
  rintro e w1 ⟨⟨x, rfl, hx0, hx1⟩, hc1, ho1⟩
  obtain ⟨k, rfl⟩ : ∃ k : Nat, x = k := ⟨x.toNat, by omega⟩
  have hk : k < zs.length := by omega
  obtain ⟨b, off, rfl, hcell⟩ := hA k hk
  have hbp := hne none b off rfl
  have hbl : b < w.heap.size := block_lt_of_cell hcell
  have hcell1 : w1.cell? ⟨b, off + k, none⟩ = some (.int .i64 zs[k]) := (World.cell?_of_block (w := w) (ho1.block b hbl (fun e => hbp (by injection e)))).trans hcell
  have hkI : (k : Int) < zs.length := by omega
  clear hcell hne
  go_wp2
  go_ret
  exact ⟨⟨_, rfl, List.getElem_mem hk⟩, hc1, ho1⟩

end Go.Proofs.YtlmbnefoobameaaDoor
