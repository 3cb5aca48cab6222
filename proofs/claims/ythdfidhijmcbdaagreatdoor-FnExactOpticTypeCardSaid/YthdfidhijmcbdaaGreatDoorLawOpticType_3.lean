/- Lemmas: JoinsLaid, UnfitLaid. -/
import Derived.Test.YthdfidhijmcbdaaGreatDoorRows
import Derived.Test.YthdfidhijmcbdaaGreatDoorLawLaid
import Derived.Test.YthdfidhijmcbdaaGreatDoorImplKind
import Derived.Test.YthdfidhijmcbdaaGreatDoorLawOpticType_1
import Derived.Stop.LaidErr

section
namespace Go.Proofs.YthdfidhijmcbdaaGreatDoor
set_option maxRecDepth 100000
open Go.ChangeShapes Go.WideShapes Go.ChangeAt Go.RowKit

theorem cellsJoinRow : Tryz.prog.cellsOf 186 = 6 := by kernel_rfl
theorem cellsJoins : Tryz.prog.cellsOf 190 = 36 := by kernel_rfl
theorem cellsIntJ : Tryz.prog.cellsOf 3 = 1 := by kernel_rfl

theorem joinRow_cells {W : World} {cs : List Value} {fuel : Nat} {a b c d e f : Int} {p : List MemPlace} (h : DataW.trod (fun _ => ()) Tryz.prog W 0 (fun _ => true) false fuel 186 cs = some (.agg [.lit (.int .i64 a), .lit (.int .i64 b), .lit (.int .i64 c), .lit (.int .i64 d), .lit (.int .i64 e), .lit (.int .i64 f)], p)) :
    cs = [.int .i64 a, .int .i64 b, .int .i64 c, .int .i64 d, .int .i64 e, .int .i64 f] := by
  obtain ⟨xs, n, rfl, ex, hlen, hxl, hel⟩ := DataW.trod_array Tryz.underlying186 h
  rw [cellsJoinRow] at hlen
  rw [cellsIntJ] at hel
  have e3 := (DataW.agg.inj (Prod.mk.inj ex).1)
  match cs, hlen with
  | [c0, c1, c2, c3, c4, c5], _ =>
  match xs, hxl with
  | [x0, x1, x2, x3, x4, x5], _ =>
  simp only [List.map_cons, List.map_nil, List.cons.injEq, and_true] at e3
  obtain ⟨e0, e1, e2, e3, e4, e5⟩ := e3
  have h0 : DataW.trod (fun _ => ()) Tryz.prog W 0 (fun _ => true) false n 3 [c0] = some x0 := hel 0 (by omega)
  obtain ⟨n0, k0, l0, _⟩ := DataW.trod_int Tryz.underlying3 h0
  simp at k0
  subst k0
  rw [l0] at e0
  simp at e0
  have h1 : DataW.trod (fun _ => ()) Tryz.prog W 0 (fun _ => true) false n 3 [c1] = some x1 := hel 1 (by omega)
  obtain ⟨n1, k1, l1, _⟩ := DataW.trod_int Tryz.underlying3 h1
  simp at k1
  subst k1
  rw [l1] at e1
  simp at e1
  have h2 : DataW.trod (fun _ => ()) Tryz.prog W 0 (fun _ => true) false n 3 [c2] = some x2 := hel 2 (by omega)
  obtain ⟨n2, k2, l2, _⟩ := DataW.trod_int Tryz.underlying3 h2
  simp at k2
  subst k2
  rw [l2] at e2
  simp at e2
  have h3 : DataW.trod (fun _ => ()) Tryz.prog W 0 (fun _ => true) false n 3 [c3] = some x3 := hel 3 (by omega)
  obtain ⟨n3, k3, l3, _⟩ := DataW.trod_int Tryz.underlying3 h3
  simp at k3
  subst k3
  rw [l3] at e3
  simp at e3
  have h4 : DataW.trod (fun _ => ()) Tryz.prog W 0 (fun _ => true) false n 3 [c4] = some x4 := hel 4 (by omega)
  obtain ⟨n4, k4, l4, _⟩ := DataW.trod_int Tryz.underlying3 h4
  simp at k4
  subst k4
  rw [l4] at e4
  simp at e4
  have h5 : DataW.trod (fun _ => ()) Tryz.prog W 0 (fun _ => true) false n 3 [c5] = some x5 := hel 5 (by omega)
  obtain ⟨n5, k5, l5, _⟩ := DataW.trod_int Tryz.underlying3 h5
  simp at k5
  subst k5
  rw [l5] at e5
  simp at e5
  subst e0 e1 e2 e3 e4 e5
  rfl

def joinChunk (q : Nat) : List Value := (joinCells.drop (q * 6)).take 6

theorem joinsAt_of {W : World} {L : List (String × DataW Unit)} (hm : ("loop.example/g00592/impl.kindJoins", Rows.laid_loop_example_g00592_impl_kindJoins) ∈ L) (h : laidMet Tryz.prog L W) : JoinsAt W := by
  obtain ⟨ps, hv, _⟩ := h
  obtain ⟨g', t', cs, fuel, p, hg', ht', hvar, hd⟩ := laidVars_mem hv hm
  obtain rfl := Option.some.inj ((show Tryz.prog.globalNamed "loop.example/g00592/impl.kindJoins" = some 1 by kernel_rfl).symm.trans hg')
  obtain rfl := Option.some.inj ((show (Tryz.prog.globals[1]?).map (·.type) = some 190 by kernel_rfl).symm.trans ht')
  obtain ⟨xs, m, _, ex, hlen, hl, hel⟩ := DataW.trod_array Tryz.underlying190 hd
  rw [cellsJoins] at hlen
  rw [cellsJoinRow] at hel
  have e3 := (DataW.agg.inj (Prod.mk.inj ex).1)
  match xs, hl with
  | [x0, x1, x2, x3, x4, x5], _ =>
  simp only [List.map_cons, List.map_nil, List.cons.injEq, and_true] at e3
  obtain ⟨e0, e1, e2, e3, e4, e5⟩ := e3
  have hc : ∀ q, q < 6 → (cs.toList.drop (q * 6)).take 6 = joinChunk q := by
    intro q hq
    have hq6 : q = 0 ∨ q = 1 ∨ q = 2 ∨ q = 3 ∨ q = 4 ∨ q = 5 := by omega
    rcases hq6 with rfl | rfl | rfl | rfl | rfl | rfl
    · have := hel 0 (by omega)
      simp only [List.getElem?_cons_zero] at this
      rw [show x0 = (x0.1, x0.2) from rfl, ← e0] at this
      exact joinRow_cells this
    · have := hel 1 (by omega)
      simp only [List.getElem?_cons_zero, List.getElem?_cons_succ] at this
      rw [show x1 = (x1.1, x1.2) from rfl, ← e1] at this
      exact joinRow_cells this
    · have := hel 2 (by omega)
      simp only [List.getElem?_cons_zero, List.getElem?_cons_succ] at this
      rw [show x2 = (x2.1, x2.2) from rfl, ← e2] at this
      exact joinRow_cells this
    · have := hel 3 (by omega)
      simp only [List.getElem?_cons_zero, List.getElem?_cons_succ] at this
      rw [show x3 = (x3.1, x3.2) from rfl, ← e3] at this
      exact joinRow_cells this
    · have := hel 4 (by omega)
      simp only [List.getElem?_cons_zero, List.getElem?_cons_succ] at this
      rw [show x4 = (x4.1, x4.2) from rfl, ← e4] at this
      exact joinRow_cells this
    · have := hel 5 (by omega)
      simp only [List.getElem?_cons_zero, List.getElem?_cons_succ] at this
      rw [show x5 = (x5.1, x5.2) from rfl, ← e5] at this
      exact joinRow_cells this
  have hcell : ∀ i, i < 36 → W.cell? ⟨1, i, none⟩ = cs[i]? ∧ 1 < W.heap.size := by
    intro i hi
    unfold World.var? at hvar
    rw [show Tryz.prog.globalNamed "loop.example/g00592/impl.kindJoins" = some 1 by kernel_rfl] at hvar
    simp only [Option.bind_some] at hvar
    cases hh : W.heap[1]? with
    | none => rw [hh] at hvar; cases hvar
    | some ob =>
      rw [hh] at hvar
      cases ob with
      | cells cs' t' r =>
        cases hvar
        exact ⟨by simp [World.cell?, hh], (Array.getElem?_eq_some_iff.1 hh).1⟩
      | _ => cases hvar
  refine ⟨(hcell 0 (by omega)).2, fun i hi => (hcell i hi).1.trans ?_⟩
  have h1 := congrArg (·[i % 6]?) (hc (i / 6) (by omega))
  simp only [joinChunk, List.getElem?_take, List.getElem?_drop] at h1
  rw [if_pos (by omega), if_pos (by omega), show i / 6 * 6 + i % 6 = i by omega] at h1
  simpa using h1

end Go.Proofs.YthdfidhijmcbdaaGreatDoor
end

section
namespace Go.Proofs.YthdfidhijmcbdaaGreatDoor
set_option maxRecDepth 100000
open Go.ChangeShapes Go.WideShapes Go.ChangeAt Go.RowKit

theorem errStar : "*" ++ "errors.errorString" = "*errors.errorString" := by decide
theorem unfitRow (u : TypeId) (h : Tryz.prog.typeName? 3 u = some "*errors.errorString") : u = 195 :=
  typeName_ptr_named (nm := "errors.errorString") (by rw [errStar]; kernel_rfl) (by kernel_rfl) (by decide) u (by rw [errStar]; exact h)

theorem cellsErr : Tryz.prog.cellsOf 220 = 1 := by kernel_rfl
theorem cellsErrText : Tryz.prog.cellsOf 9 = 1 := by kernel_rfl
theorem unfitAt_of {W : World} {r : List (String × DataW Unit)} (h : laidMet Tryz.prog (("loop.example/g00592/impl.errUnfit", Rows.laid_loop_example_g00592_impl_errUnfit) :: r) W) : ∃ u, UnfitAt W u := by
  obtain ⟨a, s, hv, _⟩ := Go.laid_sentinel h (show Tryz.prog.globalNamed "loop.example/g00592/impl.errUnfit" = some 0 by kernel_rfl) (show (Tryz.prog.globals[0]?).map (·.type) = some 62 by kernel_rfl) Tryz.underlying62 unfitRow Tryz.underlying195 Tryz.underlying220 rfl rfl Tryz.underlying9 cellsErr cellsErrText
  refine ⟨_, ?_, ?_, a, rfl⟩
  · unfold World.var? at hv
    rw [show Tryz.prog.globalNamed "loop.example/g00592/impl.errUnfit" = some 0 by kernel_rfl] at hv
    simp only [Option.bind_some] at hv
    cases hh : W.heap[0]? with
    | none => rw [hh] at hv; cases hv
    | some ob => exact (Array.getElem?_eq_some_iff.1 hh).1
  · exact World.var?_cell (show Tryz.prog.globalNamed "loop.example/g00592/impl.errUnfit" = some 0 by kernel_rfl) hv 0

end Go.Proofs.YthdfidhijmcbdaaGreatDoor
end
