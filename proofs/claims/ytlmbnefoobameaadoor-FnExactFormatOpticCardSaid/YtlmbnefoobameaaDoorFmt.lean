/- FormatInt of the program and of its model: the decimal numeral. -/
import Derived.Test.YtlmbnefoobameaaDoorShelfItoa
import Derived.Test.YtlmbnefoobameaaDoorSpecFmt
import Derived.Sort.Grow
namespace Go.Proofs.YtlmbnefoobameaaDoor
open Go.RowKit Go.Sort

theorem specFormatInt_any (n : Int) (w : World) (h0 : -(2 ^ 63) ≤ n) (h1 : n ≤ 2 ^ 63 - 1) :
    Calls Tryd.prog 96 #[.int .i64 n] w fun e w' => e = .returned (.string ⟨(Lib.itoa n).toArray⟩) ∧ Below w.heap.size w w' := by
  rcases Int.lt_trichotomy n 0 with h | h | h
  · obtain ⟨u, rfl⟩ : ∃ u : Nat, n = -(u : Int) := ⟨n.natAbs, by omega⟩
    refine (specFormatInt_neg u w (by omega) (by omega)).mono fun e w' ⟨he, hb⟩ => ⟨?_, hb⟩
    rw [he, Lib.itoa, if_pos h, show (-(u : Int)).natAbs = u from by omega, nz, if_neg (by omega)]
  · subst h
    have h00 : ((0 : Int) == 0) = true := by decide
    go_enter Tryd.func96, Tryd.ntmps96
    go_wp2
    go_ret
    refine ⟨?_, Below.refl _ _⟩
    have : (Lib.itoa 0) = [48] := by rw [Lib.itoa, if_neg (by omega), Lib.decDigits, dif_pos (by decide)]; rfl
    rw [this]
    rfl
  · obtain ⟨u, rfl⟩ : ∃ u : Nat, n = (u : Int) := ⟨n.toNat, by omega⟩
    refine (specFormatInt_pos u w (by omega) (by omega)).mono fun e w' ⟨he, hb⟩ => ⟨?_, hb⟩
    rw [he, Lib.itoa, if_neg (by omega), Int.toNat_natCast, nz, if_neg (by omega)]

/-- The table that strconv reads. -/
def Pow10At (w : World) : Prop := Lib.TabIs Tryd.prog w "internal/strconv.uint64pow10" .u64 Lib.pow10Tab

theorem grow_below (w : World) (k : Nat) (os : Array Obj) : Below w.heap.size w (grow (w.drewN k) os) :=
  ⟨rfl, rfl, rfl, by simp [grow], fun i hi => by simp [grow, Array.getElem?_append, hi]⟩

theorem Pow10At.below {w w' : World} {B : Nat} (h : Pow10At w) (hb : Below B w w') (hB : 1 < B) : Pow10At w' := by
  unfold Pow10At Lib.TabIs World.var? at h ⊢
  rw [show Tryd.prog.globalNamed "internal/strconv.uint64pow10" = some 1 by kernel_rfl] at h ⊢
  rw [Option.bind_some] at h ⊢
  rw [hb.block _ hB]
  exact h

theorem implFormatInt_any (n : Int) (w : World) (h0 : -(2 ^ 63) ≤ n) (h1 : n ≤ 2 ^ 63 - 1) (ht : Pow10At w) :
    Calls Tryd.prog 100 #[.int .i64 n] w fun e w' => e = .returned (.string ⟨(Lib.itoa n).toArray⟩) ∧ Below w.heap.size w w' := by
  have hI := Lib.hid (Tryd.strconv_Itoa n (by omega) (by omega) w ht)
  clear ht
  go_enter Tryd.func100, Tryd.ntmps100
  go_wp2_with fail
  refine hI.out.mono ?_
  rintro e w' ⟨rfl, k, os, rfl⟩
  go_wp2
  go_ret
  exact ⟨rfl, grow_below w k os⟩

end Go.Proofs.YtlmbnefoobameaaDoor
