/- impl.WithoutName: the strings but s, in a row of the call's own. -/
import Derived.Test.YtchibcmpgfoanaaImplInsert
import Derived.Test.YtchibcmpgfoanaaSpecWithout
namespace Go.Proofs.Ytchibcmpgfoanaa
open Go.RowKit Go.Lib Go.Sort

/-- Is it s? -/
def isB (s x : ByteArray) : Bool := x.data.toList == s.data.toList

theorem gives (s x : ByteArray) (B : Nat) (W : World) (hc : W.cell? ⟨B, 0, none⟩ = some (.string s)) :
    FnGives Try.prog 40 #[.pointer (some ⟨B, 0, none⟩)] #[.string x] (.bool (isB s x)) W := by
  show Calls Try.prog 40 #[.string x, .pointer (some ⟨B, 0, none⟩)] W _
  have he : (x.toList == s.toList) = isB s x := by rw [ByteArray.toList_eq, ByteArray.toList_eq]; rfl
  cases hb : isB s x
  · have he' : (x.toList == s.toList) = false := by rw [he, hb]
    clear he hb
    go_enter Try.func40, Try.ntmps40
    go_wp2
    go_ret
    exact ⟨rfl, 0, rfl⟩
  · have he' : (x.toList == s.toList) = true := by rw [he, hb]
    clear he hb
    go_enter Try.func40, Try.ntmps40
    go_wp2
    go_ret
    exact ⟨rfl, 0, rfl⟩

theorem holds_row {w : World} {g : Nat} {ss : List ByteArray} (h : Whole1 w g 9 (strVals ss).toArray) : Holds Value.string w g 0 ss.toArray := fun j hj => by
  have hj' : j < ss.length := by simpa using hj
  refine ⟨?_, h.free _⟩
  rw [Nat.zero_add, h.cell, getElem!_pos ss.toArray j hj]
  simp [strVals, hj']

theorem whole_putRow {w : World} {g : Nat} {t : TypeId} {cs : Array Value} (h : Whole1 w g t cs) (q : Nat) (d : Array ByteArray) : Whole1 (putRow Value.string (Sort.ahead w q) g 0 d) g t (putCells Value.string 0 d cs) := by
  unfold Whole1 putRow mapBlock at *
  rw [Array.getElem?_modify, if_pos rfl]
  show Option.map _ w.heap[g]? = _
  rw [h]
  rfl

theorem below_putRow {w : World} {B g : Nat} (hg : B ≤ g) (q : Nat) (d : Array ByteArray) : Below B w (putRow Value.string (Sort.ahead w q) g 0 d) := by
  refine ⟨rfl, rfl, rfl, by simp [putRow, mapBlock, Sort.ahead], fun k hk => ?_⟩
  show (w.heap.modify g _)[k]? = _
  rw [Array.getElem?_modify, if_neg (by omega)]

set_option maxHeartbeats 1000000 in
theorem implWithout_any (A : Option Addr) (c : Nat) (ss : List ByteArray) (s : ByteArray) (w : World) (hA : StrsAt w w.heap.size A ss) (hn : ss.length ≤ 1048576) (hs : ∀ i, (h : i < ss.length) → ss[i].size ≤ 1048576) :
    Calls Try.prog 22 #[.slice A ss.length c, .string s] w (RowNew w (withoutB ss s)) := by
  have hcp := Lib.hid (fun W h => copyNames_any A c ss W h hn hs)
  have eg : ∀ args W, (callFunc 40 args).run Try.prog W = .ok (.enter 40 args) W := enters_of Try.func40 (by kernel_rfl) rfl
  have hdel : ∀ (W : World) (g : Nat), Whole1 W g 9 (strVals ss).toArray → w.heap.size < g → W.cell? ⟨w.heap.size, 0, none⟩ = some (.string s) →
      Calls Try.prog 41 #[.slice (some ⟨g, 0, none⟩) ss.length ss.length, .func (.func 40) #[] #[.pointer (some ⟨w.heap.size, 0, none⟩)]] W
        fun e w' => e = .returned (.slice (some ⟨g, 0, none⟩) (withoutB ss s).length ss.length) ∧ RowStrs w' g (withoutB ss s) ∧ Below g W w' := by
    intro W g hw hg hc
    have hz : ss.toArray.size = ss.length := by simp
    have hB : w.heap.size < W.heap.size := Nat.lt_trans hg hw.lt
    have := AnyE.slices_DeleteFunc Try.laysDelFunc Value.string (fun _ => rfl) (isB s) 40 #[.pointer (some ⟨w.heap.size, 0, none⟩)] eg ⟨#[]⟩ Try.zeroValue9 g 0 ss.length ss.toArray W
      (fun W' x hb => gives s x _ W' ((hb.cell (p := ⟨w.heap.size, 0, none⟩) hB).trans hc))
      (fun n os dk x _ => gives s x _ _ (by
        unfold sortWorld
        rw [cell?_grow _ _ _ (by show w.heap.size < (putRow _ _ _ _ _).heap.size; rw [size_putRow]; exact hB), cell?_putRow_other _ _ g _ _ _ (Or.inl (by show w.heap.size ≠ g; omega))]
        exact hc))
      (holds_row hw) (by rw [hz]; omega) (by rw [hz]; exact Nat.le_refl _)
    rw [hz] at this
    refine this.mono ?_
    rintro e w' ⟨rfl, q, rfl⟩
    have hfl : (ss.toArray.toList.filter fun x => !isB s x) = withoutB ss s := by simp [withoutB, isB]
    rw [hfl]
    refine ⟨rfl, ⟨_, whole_putRow hw q _, fun i hi => ?_⟩, below_putRow (Nat.le_refl _) q _⟩
    have hl := withoutB_len ss s
    unfold putCells
    rw [Array.getElem?_mapIdx]
    have hi' : i < ss.length := by omega
    simp only [List.getElem?_toArray, strVals, List.getElem?_map, List.getElem?_eq_getElem hi', Option.map_some]
    rw [if_pos (by simp; omega), getElem!_pos _ _ (by simp; omega)]
    simp [hi]
  have HD := Lib.hid hdel
  have HE := Lib.hid eg
  clear hdel eg hs
  go_enter Try.func22, Try.ntmps22
  go_wp2_with fail
  have hb0 : Below w.heap.size w (w.alloc (.cells #[.string s] 9)) := (Below.refl _ _).alloc (Nat.le_refl _) _
  refine (hcp.out _ ((hA.below hb0).more hb0.size)).mono ?_
  rintro e w1 ⟨g, rfl, hg, hw, hb⟩
  have hc0 : (w.alloc (.cells #[.string s] 9)).cell? ⟨w.heap.size, 0, none⟩ = some (.string s) := by simp
  have hc1 := (hb.cell (p := ⟨w.heap.size, 0, none⟩) (by simp)).trans hc0
  have hg' : w.heap.size < g := by simp at hg; omega
  clear hc0
  go_wp2_with fail
  refine (HD.out w1 g hw hg' hc1).mono ?_
  rintro e w2 ⟨rfl, hw2, hb2⟩
  clear hc1
  go_wp2
  go_ret
  exact ⟨g, _, rfl, by omega, hw2, (hb0.trans (hb.mono hb0.size)).trans (hb2.mono (by omega))⟩

end Go.Proofs.Ytchibcmpgfoanaa
