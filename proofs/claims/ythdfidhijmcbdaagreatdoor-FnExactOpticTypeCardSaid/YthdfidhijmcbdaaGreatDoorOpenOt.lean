/- A laws.Optic argument opened into the words of Ot. -/
import Derived.Test.YthdfidhijmcbdaaGreatDoorOpenTy
import Derived.Test.YthdfidhijmcbdaaGreatDoorOtIn
namespace Go.Proofs.YthdfidhijmcbdaaGreatDoor
set_option maxRecDepth 100000
open Go.ChangeShapes Go.WideShapes Go.ChangeAt Go.RowKit

theorem cellsOt : Tryz.prog.cellsOf 44 = 4 := by kernel_rfl
theorem cellsOts : Tryz.prog.cellsOf 42 = 1 := by kernel_rfl

theorem open_ot {H : Type} {enc : TypeId × Value → H} {W : World} (fuel : Nat) : ∀ {cs : List Value} {x : DataW H × List MemPlace}, DataW.trod enc Tryz.prog W 0 (fun _ => true) true fuel 44 cs = some x → (∀ q ∈ x.2, q.block < W.heap.size) →
    ∃ c0 c1 c2 c3 t, cs = [c0, c1, c2, c3] ∧ OtAt W W.heap.size (.agg #[c0, c1, c2, c3]) t := by
  induction fuel using Nat.strongRecOn with
  | ind fuel ih =>
    intro cs x h hlt
    obtain ⟨xs, n, rfl, rfl, hlen, hxl, hf⟩ := DataW.trod_struct Tryz.underlying44 h
    rw [cellsOt] at hlen
    have h0 : DataW.trod enc Tryz.prog W 0 (fun _ => true) true n 3 ((cs.drop 0).take (Tryz.prog.cellsOf 3)) = xs[0]? := hf 0 _ rfl
    have hN : DataW.trod enc Tryz.prog W 0 (fun _ => true) true n 3 ((cs.drop 2).take (Tryz.prog.cellsOf 3)) = xs[2]? := hf 2 _ rfl
    have hM : DataW.trod enc Tryz.prog W 0 (fun _ => true) true n 9 ((cs.drop 1).take (Tryz.prog.cellsOf 9)) = xs[1]? := hf 1 _ rfl
    have h2 : DataW.trod enc Tryz.prog W 0 (fun _ => true) true n 42 ((cs.drop 3).take (Tryz.prog.cellsOf 42)) = xs[3]? := hf 3 _ rfl
    rw [cellsInt] at h0 hN
    rw [cellsString] at hM
    rw [cellsOts] at h2
    match cs, hlen with
    | [c0, c1, c2, c3], _ =>
    match xs, hxl with
    | [x0, x1, x2, x3], _ =>
    simp at h0 hN hM h2
    obtain ⟨k, hk, _, _⟩ := DataW.trod_int Tryz.underlying3 h0
    obtain ⟨nn, hnn, _, hwf⟩ := DataW.trod_int Tryz.underlying3 hN
    obtain ⟨nm, hnm, _, hms⟩ := DataW.trod_string Tryz.underlying9 hM
    simp at hk hnn hnm
    subst hk hnn hnm
    rcases DataW.trod_slice Tryz.underlying42 h2 with ⟨hcs, _⟩ | ⟨a, len, cap, elems, rest, m, rfl, hcs, hx, _, hl, hm, hel, hes, _, _⟩
    · simp at hcs
      subst hcs
      exact ⟨_, _, _, _, .mk k nn nm [], rfl, OtAt.of (t := .mk k nn nm []) (A := none) (ac := 0) hms ⟨Nat.zero_le _, fun _ => .bool false, fun i hi => absurd hi (by simp [Ot.args]), fun i hi => absurd hi (by simp [Ot.args])⟩⟩
    · simp at hcs
      subst hcs
      have hxe : x3.2 = MemPlace.row a ((elems.length + rest.length) * 4) ++ (elems ++ rest).flatMap (·.2) := by rw [hx]; simp only [cellsOt]
      have each : ∀ i, (hi : i < len) → ∃ p : Value × Ot, OtAt W W.heap.size p.1 p.2 ∧ ∀ j, j < 4 → (partAt p.1 j).isSome = true ∧ W.cell? ((a.add (i * 4)).add j) = partAt p.1 j := fun i hi => by
        have he := hes i hi
        rw [cellsOt, List.getElem?_eq_getElem (by omega)] at he
        obtain ⟨cs', hc', ht'⟩ := Option.bind_eq_some_iff.1 he
        obtain ⟨_, hcl, hcat⟩ := World.cells?_some hc'
        obtain ⟨c0, c1, c2, c3, t, rfl, ht⟩ := ih m (by omega) ht' (fun q hq => hlt q (by
          simp only [List.flatMap_cons, List.flatMap_nil, List.append_nil, List.mem_append]
          right
          right
          right
          rw [hxe, List.mem_append]
          right
          exact List.mem_flatMap.2 ⟨_, List.mem_append_left _ (List.getElem_mem (by omega)), hq⟩))
        refine ⟨(.agg #[c0, c1, c2, c3], t), ht, fun j hj => ?_⟩
        have : j = 0 ∨ j = 1 ∨ j = 2 ∨ j = 3 := by omega
        rcases this with rfl | rfl | rfl | rfl
        · exact ⟨rfl, hcat 0 (by omega)⟩
        · exact ⟨rfl, hcat 1 (by omega)⟩
        · exact ⟨rfl, hcat 2 (by omega)⟩
        · exact ⟨rfl, hcat 3 (by omega)⟩
      have hf2 : ∃ f : Nat → Value × Ot, ∀ i, i < len → OtAt W W.heap.size (f i).1 (f i).2 ∧ ∀ j, j < 4 → (partAt (f i).1 j).isSome = true ∧ W.cell? ((a.add (i * 4)).add j) = partAt (f i).1 j := by
        refine ⟨fun i => if hi : i < len then Classical.choose (each i hi) else (.bool false, .mk 0 0 ⟨#[]⟩ []), fun i hi => ?_⟩
        dsimp only
        rw [dif_pos hi]
        exact Classical.choose_spec (each i hi)
      obtain ⟨f, hff⟩ := hf2
      have hll : ((List.range len).map fun i => (f i).2).length = len := by simp
      refine ⟨_, _, _, _, .mk k nn nm ((List.range len).map fun i => (f i).2), rfl, ?_⟩
      have := OtAt.of (w := W) (B := W.heap.size) (ac := cap) (A := some a) (t := .mk k nn nm ((List.range len).map fun i => (f i).2)) hms ⟨by simp only [Ot.args]; rw [hll]; omega, fun i => (f i).1, fun i hi => ?_, fun i hi => ?_⟩
      · simp only [Ot.kind, Ot.num, Ot.name, Ot.args] at this
        rw [hll] at this
        exact this
      · simp only [Ot.args] at hi
        rw [hll] at hi
        have h3 := (hff i hi).2
        have hs := (hff 0 (by omega)).2 0 (by omega)
        rw [← hs.2] at hs
        obtain ⟨v0, hv0⟩ := Option.isSome_iff_exists.1 hs.1
        obtain ⟨b, off, spot⟩ := a
        have hspot : spot = none := by simpa [Addr.add] using World.cell?_spot hv0
        subst hspot
        refine ⟨b, off, rfl, ?_, fun j hj => ?_⟩
        · refine hlt (.cell b off) ?_
          simp only [List.flatMap_cons, List.flatMap_nil, List.append_nil, List.mem_append]
          right
          right
          right
          rw [hxe, List.mem_append]
          left
          exact MemPlace.mem_row.2 ⟨0, by omega, by simp⟩
        · have := (h3 j hj).2
          rw [add_plain, add_plain] at this
          exact this
      · simp only [Ot.args] at hi ⊢
        rw [hll] at hi
        simp only [List.getElem_map, List.getElem_range]
        exact (hff i hi).1

theorem open_optic_arg {H : Type} {enc : TypeId × Value → H} {W : World} {base : Nat} {v : Value} {d : DataW H} {p : List MemPlace} (hv : Value.okWide Tryz.prog W .any base 44 v) (h : DataW.Trod enc Tryz.prog W 0 (fun _ => true) true 44 v d p) (hlt : ∀ x ∈ p, x.block < W.heap.size) :
    ∃ t, OtAt W W.heap.size v t := by
  obtain ⟨cs, rfl, _⟩ := okWide_struct Tryz.underlying44 hv
  obtain ⟨fuel, hf⟩ := h
  obtain ⟨c0, c1, c2, c3, t, hcs, ht⟩ := open_ot fuel hf hlt
  have : cs = #[c0, c1, c2, c3] := Array.ext' (by simpa [Value.cells] using hcs)
  subst this
  exact ⟨t, ht⟩

end Go.Proofs.YthdfidhijmcbdaaGreatDoor
