/- A laws.Type argument opened into the words of Ty. -/
import Derived.Test.YthdfidhijmcbdaaGreatDoorLaw
import Derived.Test.YthdfidhijmcbdaaGreatDoorTyIn
import Derived.Test.YthdfidhijmcbdaaGreatDoorProg
namespace Go.Proofs.YthdfidhijmcbdaaGreatDoor
set_option maxRecDepth 100000
open Go.ChangeShapes Go.WideShapes Go.ChangeAt Go.RowKit

theorem cellsString : Tryz.prog.cellsOf 9 = 1 := by kernel_rfl
theorem cellsInt : Tryz.prog.cellsOf 3 = 1 := by kernel_rfl
theorem cellsStrs : Tryz.prog.cellsOf 24 = 1 := by kernel_rfl

theorem open_labels {H : Type} {enc : TypeId × Value → H} {W : World} {fuel : Nat} {cs : List Value} {x : DataW H × List MemPlace} (h : DataW.trod enc Tryz.prog W 0 (fun _ => true) true fuel 24 cs = some x) (hlt : ∀ q ∈ x.2, q.block < W.heap.size) :
    ∃ A ss c, cs = [.slice A (List.length ss) c] ∧ StrsAt W W.heap.size A ss ∧ ss.length ≤ maxLen ∧ ∀ i, (h : i < ss.length) → ss[i].size ≤ maxLen := by
  rcases open_strings Tryz.underlying24 Tryz.underlying9 cellsString h with ⟨hcs, hx⟩ | ⟨a, len, cap, ss, hcs, _, hl, hm, hz, hx, hcell, hws⟩
  · subst hcs
    exact ⟨none, [], 0, rfl, StrsAt.empty _ _ _, Nat.zero_le _, fun i h => absurd h (by simp)⟩
  · subst hcs
    simp only [if_true] at hz
    subst hx
    have hlen : (ss.take len).length = len := by rw [List.length_take]; omega
    refine ⟨some a, ss.take len, cap, by rw [hlen], fun i hi => ?_, by rw [hlen]; omega, fun i hi => ?_⟩
    · rw [hlen] at hi
      obtain ⟨b, off, spot⟩ := a
      have hspot : spot = none := by simpa [Addr.add] using World.cell?_spot (hcell 0 (by omega))
      subst hspot
      refine ⟨b, off, rfl, hlt (.cell b off) (MemPlace.mem_row.2 ⟨0, by omega, by simp⟩), ?_⟩
      have := hcell i (by omega)
      rw [add_plain] at this
      rw [this, List.getElem_take]
      simp [show i < ss.length by omega]
    · exact hws _ (List.mem_of_mem_take (List.getElem_mem hi))

theorem cellsTy : Tryz.prog.cellsOf 41 = 3 := by kernel_rfl
theorem cellsTys : Tryz.prog.cellsOf 39 = 1 := by kernel_rfl

theorem open_ty {H : Type} {enc : TypeId × Value → H} {W : World} (fuel : Nat) : ∀ {cs : List Value} {x : DataW H × List MemPlace}, DataW.trod enc Tryz.prog W 0 (fun _ => true) true fuel 41 cs = some x → (∀ q ∈ x.2, q.block < W.heap.size) →
    ∃ c0 c1 c2 t, cs = [c0, c1, c2] ∧ TyAt W W.heap.size (.agg #[c0, c1, c2]) t := by
  induction fuel using Nat.strongRecOn with
  | ind fuel ih =>
    intro cs x h hlt
    obtain ⟨xs, n, rfl, rfl, hlen, hxl, hf⟩ := DataW.trod_struct Tryz.underlying41 h
    rw [cellsTy] at hlen
    have h0 : DataW.trod enc Tryz.prog W 0 (fun _ => true) true n 3 ((cs.drop 0).take (Tryz.prog.cellsOf 3)) = xs[0]? := hf 0 _ rfl
    have h1 : DataW.trod enc Tryz.prog W 0 (fun _ => true) true n 24 ((cs.drop 1).take (Tryz.prog.cellsOf 24)) = xs[1]? := hf 1 _ rfl
    have h2 : DataW.trod enc Tryz.prog W 0 (fun _ => true) true n 39 ((cs.drop 2).take (Tryz.prog.cellsOf 39)) = xs[2]? := hf 2 _ rfl
    rw [cellsInt] at h0
    rw [cellsStrs] at h1
    rw [cellsTys] at h2
    match cs, hlen with
    | [c0, c1, c2], _ =>
    match xs, hxl with
    | [x0, x1, x2], _ =>
    simp at h0 h1 h2
    obtain ⟨k, hk, _, _⟩ := DataW.trod_int Tryz.underlying3 h0
    obtain ⟨L, ls, lc, hL, hls, hn, hz⟩ := open_labels h1 (fun q hq => hlt q (by simp [hq]))
    simp at hk hL
    subst hk hL
    rcases DataW.trod_slice Tryz.underlying39 h2 with ⟨hcs, _⟩ | ⟨a, len, cap, elems, rest, m, rfl, hcs, hx, _, hl, hm, hel, hes, _, _⟩
    · simp at hcs
      subst hcs
      exact ⟨_, _, _, .mk k ls [], rfl, TyAt.of (t := .mk k ls []) (A := none) (ac := 0) hn hz hls ⟨Nat.zero_le _, fun _ => .bool false, fun i hi => absurd hi (by simp [Ty.args]), fun i hi => absurd hi (by simp [Ty.args])⟩⟩
    · simp at hcs
      subst hcs
      have hxe : x2.2 = MemPlace.row a ((elems.length + rest.length) * 3) ++ (elems ++ rest).flatMap (·.2) := by rw [hx]; simp only [cellsTy]
      have each : ∀ i, (hi : i < len) → ∃ p : Value × Ty, TyAt W W.heap.size p.1 p.2 ∧ ∀ j, j < 3 → (partAt p.1 j).isSome = true ∧ W.cell? ((a.add (i * 3)).add j) = partAt p.1 j := fun i hi => by
        have he := hes i hi
        rw [cellsTy, List.getElem?_eq_getElem (by omega)] at he
        obtain ⟨cs', hc', ht'⟩ := Option.bind_eq_some_iff.1 he
        obtain ⟨_, hcl, hcat⟩ := World.cells?_some hc'
        obtain ⟨c0, c1, c2, t, rfl, ht⟩ := ih m (by omega) ht' (fun q hq => hlt q (by
          simp only [List.flatMap_cons, List.flatMap_nil, List.append_nil, List.mem_append]
          right
          right
          rw [hxe, List.mem_append]
          right
          exact List.mem_flatMap.2 ⟨_, List.mem_append_left _ (List.getElem_mem (by omega)), hq⟩))
        refine ⟨(.agg #[c0, c1, c2], t), ht, fun j hj => ?_⟩
        have : j = 0 ∨ j = 1 ∨ j = 2 := by omega
        rcases this with rfl | rfl | rfl
        · exact ⟨rfl, hcat 0 (by omega)⟩
        · exact ⟨rfl, hcat 1 (by omega)⟩
        · exact ⟨rfl, hcat 2 (by omega)⟩
      have hf2 : ∃ f : Nat → Value × Ty, ∀ i, i < len → TyAt W W.heap.size (f i).1 (f i).2 ∧ ∀ j, j < 3 → (partAt (f i).1 j).isSome = true ∧ W.cell? ((a.add (i * 3)).add j) = partAt (f i).1 j := by
        refine ⟨fun i => if hi : i < len then Classical.choose (each i hi) else (.bool false, .mk 0 [] []), fun i hi => ?_⟩
        dsimp only
        rw [dif_pos hi]
        exact Classical.choose_spec (each i hi)
      obtain ⟨f, hff⟩ := hf2
      have hll : ((List.range len).map fun i => (f i).2).length = len := by simp
      refine ⟨_, _, _, .mk k ls ((List.range len).map fun i => (f i).2), rfl, ?_⟩
      have := TyAt.of (w := W) (B := W.heap.size) (lc := lc) (ac := cap) (L := L) (A := some a) (t := .mk k ls ((List.range len).map fun i => (f i).2)) hn hz hls ⟨by simp only [Ty.args]; rw [hll]; omega, fun i => (f i).1, fun i hi => ?_, fun i hi => ?_⟩
      · simp only [Ty.kind, Ty.labels, Ty.args] at this
        rw [hll] at this
        exact this
      · simp only [Ty.args] at hi
        rw [hll] at hi
        have h3 := (hff i hi).2
        have hs := (hff 0 (by omega)).2 0 (by omega)
        rw [← hs.2] at hs
        obtain ⟨v0, hv0⟩ := Option.isSome_iff_exists.1 hs.1
        obtain ⟨b, off, spot⟩ := a
        have hspot : spot = none := by simpa [Addr.add] using World.cell?_spot hv0
        subst hspot
        refine ⟨b, off, rfl, ?_, fun j hj => ?_⟩
        · refine hlt (.cell b off) ?_
          simp only [List.flatMap_cons, List.flatMap_nil, List.append_nil, List.mem_append]
          right
          right
          rw [hxe, List.mem_append]
          left
          exact MemPlace.mem_row.2 ⟨0, by omega, by simp⟩
        · have := (h3 j hj).2
          rw [add_plain, add_plain] at this
          exact this
      · simp only [Ty.args] at hi ⊢
        rw [hll] at hi
        simp only [List.getElem_map, List.getElem_range]
        exact (hff i hi).1

theorem open_type_arg {H : Type} {enc : TypeId × Value → H} {W : World} {base : Nat} {v : Value} {d : DataW H} {p : List MemPlace} (hv : Value.okWide Tryz.prog W .any base 41 v) (h : DataW.Trod enc Tryz.prog W 0 (fun _ => true) true 41 v d p) (hlt : ∀ x ∈ p, x.block < W.heap.size) :
    ∃ t, TyAt W W.heap.size v t := by
  obtain ⟨cs, rfl, _⟩ := okWide_struct Tryz.underlying41 hv
  obtain ⟨fuel, hf⟩ := h
  obtain ⟨c0, c1, c2, t, hcs, ht⟩ := open_ty fuel hf hlt
  have : cs = #[c0, c1, c2] := Array.ext' (by simpa [Value.cells] using hcs)
  subst this
  exact ⟨t, ht⟩

end Go.Proofs.YthdfidhijmcbdaaGreatDoor
