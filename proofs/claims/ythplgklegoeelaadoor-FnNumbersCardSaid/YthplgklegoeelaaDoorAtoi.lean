/- strconv.Atoi at this program: a number and nil, or an error that is not nil. -/
import Derived.Test.YthplgklegoeelaaDoorShelfAtoi
import Derived.Test.YthplgklegoeelaaDoorNumLaws
import Derived.Below
namespace Go.Proofs.YthplgklegoeelaaDoor
open Go.RowKit Go.Shelf

/-- The two sentinels of strconv hold values that are not nil. -/
def ErrsAt (w : World) : Prop := (∃ t p, w.var? Tryd.prog "strconv.ErrSyntax" = some #[.iface t p]) ∧ ∃ t p, w.var? Tryd.prog "strconv.ErrRange" = some #[.iface t p]

theorem var_below {w w' : World} {B : Nat} {n : String} {g : Nat} (hb : Below B w w') (hg : Tryd.prog.globalNamed n = some g) (hB : g < B) : w'.var? Tryd.prog n = w.var? Tryd.prog n := by
  unfold World.var?
  rw [hg, Option.bind_some, Option.bind_some, hb.block _ hB]

theorem var_lt {w : World} {n : String} {g : Nat} {cs : Array Value} (hg : Tryd.prog.globalNamed n = some g) (h : w.var? Tryd.prog n = some cs) : g < w.heap.size := by
  unfold World.var? at h
  rw [hg, Option.bind_some] at h
  by_cases hlt : g < w.heap.size
  · exact hlt
  · rw [Array.getElem?_eq_none (by omega)] at h
    cases h

theorem ErrsAt.below {w w' : World} {B : Nat} (h : ErrsAt w) (hb : Below B w w') (hB : 1 < B ∧ 2 < B) : ErrsAt w' := by
  obtain ⟨⟨t, p, h1⟩, ⟨t', p', h2⟩⟩ := h
  exact ⟨⟨t, p, (var_below hb (by kernel_rfl) hB.1).trans h1⟩, ⟨t', p', (var_below hb (by kernel_rfl) hB.2).trans h2⟩⟩

theorem atoi_ok (s : ByteArray) (w : World) (hs : s.size ≤ 1048576) (v : Int) (h : Lib.atoiAll s.data.toList = .ok v) :
    Calls Tryd.prog 42 #[.string s] w fun e w' => e = .returned (.tuple #[.int .i64 v, .nilIface]) ∧ Below w.heap.size w w' := by
  refine (Any.strconv_Atoi_ok Tryd.laysC172 s (by omega) v h w).mono fun e w' ⟨he, hw⟩ => ⟨he, ?_⟩
  rcases hw with rfl | ⟨t, rfl⟩
  · exact Below.refl _ _
  · exact Lib.bytesWorld_below _ _ _

/-- An error comes back. -/
def AtoiErr (w : World) (e : Ending) (w' : World) : Prop := ∃ n t p, e = .returned (.tuple #[.int .i64 n, .iface t (.pointer (some p))]) ∧ Below w.heap.size w w'

theorem atoi_err (s : ByteArray) (w : World) (hs : s.size ≤ 1048576) (hE : ErrsAt w) (h : ∀ v, Lib.atoiAll s.data.toList ≠ .ok v) :
    Calls Tryd.prog 42 #[.string s] w (AtoiErr w) := by
  obtain ⟨⟨t, p, h1⟩, ⟨t', p', h2⟩⟩ := hE
  rcases h0 : Lib.atoiAll s.data.toList with v | _ | _
  · exact absurd h0 (h v)
  · exact (Any.strconv_Atoi_syntax_var Tryd.laysC172 s (by omega) h0 t p w h1).mono fun e w' ⟨N, he, _, _, hb⟩ => ⟨_, _, _, he, hb⟩
  · exact (Any.strconv_Atoi_range_var Tryd.laysC172 s (by omega) h0 t' p' w h2).mono fun e w' ⟨N, he, _, _, hb⟩ => ⟨_, _, _, he, hb⟩

end Go.Proofs.YthplgklegoeelaaDoor
