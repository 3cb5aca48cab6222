/- impl.WithoutName: the strings but s, in a row of the call's own. -/
import Derived.Test.YtghipacdhpglcaaImplInsert
import Derived.Test.YtghipacdhpglcaaSpecWithout
import Derived.Test.YtghipacdhpglcaaRowN
namespace Go.Proofs.Ytghipacdhpglcaa
set_option maxRecDepth 100000
open Go.RowKit Go.Lib Go.Sort

/-- Is it s? -/
def isB (s x : ByteArray) : Bool := x.data.toList == s.data.toList

theorem gives (s x : ByteArray) (B : Nat) (W : World) (hc : W.cell? ⟨B, 0, none⟩ = some (.string s)) :
    FnGives Try.prog 64 #[.pointer (some ⟨B, 0, none⟩)] #[.string x] (.bool (isB s x)) W := by
  show Calls Try.prog 64 #[.string x, .pointer (some ⟨B, 0, none⟩)] W _
  have he : (x.toList == s.toList) = isB s x := by rw [ByteArray.toList_eq, ByteArray.toList_eq]; rfl
  cases hb : isB s x
  · have he' : (x.toList == s.toList) = false := by rw [he, hb]
    clear he hb
    go_enter Try.func64, Try.ntmps64
    go_wp2
    go_ret
    exact ⟨rfl, 0, rfl⟩
  · have he' : (x.toList == s.toList) = true := by rw [he, hb]
    clear he hb
    go_enter Try.func64, Try.ntmps64
    go_wp2
    go_ret
    exact ⟨rfl, 0, rfl⟩

theorem holds_row {w : World} {g : Nat} {ss : List ByteArray} (h : Whole1 w g 9 (strVals ss).toArray) : Holds Value.string w g 0 ss.toArray := fun j hj => by
  have hj' : j < ss.length := by simpa using hj
  refine ⟨?_, h.free _⟩
  rw [Nat.zero_add, h.cell, getElem!_pos ss.toArray j hj]
  simp [strVals, hj']

theorem whole_putRow {w : World} {g : Nat} {t : TypeId} {cs : Array Value} (h : Whole1 w g t cs) (q : Nat) (d : Array ByteArray) : Whole1 (putRow Value.string (Sort.ahead w q) g 0 d) g t (putCells Value.string 0 d cs) := by
  unfold Whole1 putRow mapBlock at *
  rw [Array.getElem?_modify, if_pos rfl]
  show Option.map _ w.heap[g]? = _
  rw [h]
  rfl

theorem below_putRow {w : World} {B g : Nat} (hg : B ≤ g) (q : Nat) (d : Array ByteArray) : Below B w (putRow Value.string (Sort.ahead w q) g 0 d) := by
  refine ⟨rfl, rfl, rfl, by simp [putRow, mapBlock, Sort.ahead], fun k hk => ?_⟩
  show (w.heap.modify g _)[k]? = _
  rw [Array.getElem?_modify, if_neg (by omega)]

theorem holds_rowStrs {w : World} {g : Nat} {ss : List ByteArray} (h : RowStrs w g ss) : Holds Value.string w g 0 ss.toArray := by
  intro j hj
  have hj' : j < ss.length := by simpa using hj
  refine ⟨?_, h.free _⟩
  rw [Nat.zero_add, h.cell j hj', getElem!_pos ss.toArray j hj]
  simp

theorem indexFunc_nil (f : Value) (w : World) : Calls Try.prog 93 #[.slice none 0 0, f] w fun e w' => e = .returned (.int .i64 (-1)) ∧ w' = w := by
  go_enter Try.func93, Try.ntmps93
  go_wp2
  go_loopw [8] (fun i wr => i = .int .i64 0 ∧ wr = w) (fun _ _ => 0)
  case atStart => exact ⟨rfl, rfl⟩
  case round =>
    obtain ⟨rfl, rfl⟩ := hrel
    go_wp2
    go_ret
    exact ⟨rfl, rfl⟩

theorem deleteFunc_nil (f : Value) (w : World) : Calls Try.prog 65 #[.slice none 0 0, f] w fun e w' => e = .returned (.slice none 0 0) ∧ w' = w := by
  go_enter Try.func65, Try.ntmps65
  go_wp2_with fail
  refine (indexFunc_nil f w).mono ?_
  rintro e w' ⟨rfl, rfl⟩
  go_wp2
  go_ret
  exact ⟨rfl, rfl⟩

set_option maxHeartbeats 1000000 in
theorem implWithout_any (A : Option Addr) (c : Nat) (ss : List ByteArray) (s : ByteArray) (w : World) (hA : StrsAt w w.heap.size A ss) (hn : ss.length ≤ 1048576) (hs : ∀ i, (h : i < ss.length) → ss[i].size ≤ 1048576) :
    Calls Try.prog 26 #[.slice A ss.length c, .string s] w (RowNewN w (withoutB ss s)) := by
  have hcp := Lib.hid (fun W h => copyNames_any A c ss W h hn hs)
  have eg : ∀ args W, (callFunc 64 args).run Try.prog W = .ok (.enter 64 args) W := enters_of Try.func64 (by kernel_rfl) rfl
  have hdel : ∀ (W : World) (v : Value), W.ownsRow (w.heap.size + 1) 9 1 v ss.length (strVals ss) → w.heap.size < W.heap.size → W.cell? ⟨w.heap.size, 0, none⟩ = some (.string s) →
      Calls Try.prog 65 #[v, .func (.func 64) #[] #[.pointer (some ⟨w.heap.size, 0, none⟩)]] W
        fun e w' => ∃ A g cap, e = .returned (.slice A (withoutB ss s).length cap) ∧ w.heap.size ≤ g ∧ RowN w' A g (withoutB ss s) ∧ Below (w.heap.size + 1) W w' := by
    intro W v hown hB hc
    rcases RowStrs.of_own hown with ⟨rfl, rfl⟩ | ⟨g, cap, rfl, hg, hw⟩
    · refine (deleteFunc_nil _ W).mono ?_
      rintro e w' ⟨rfl, rfl⟩
      exact ⟨none, w.heap.size, 0, rfl, Nat.le_refl _, ⟨hB, .inl rfl⟩, Below.refl _ _⟩
    · have hcap : ss.length ≤ cap := by
        rcases hown.2 with ⟨h1, _⟩ | ⟨g', cap', cur, h1, h2, h3, h4, _⟩
        · cases h1
        · cases h1
          exact h4
      have hz : ss.toArray.size = ss.length := by simp
      have := AnyE.slices_DeleteFunc Try.laysDelFunc Value.string (fun _ => rfl) (isB s) 64 #[.pointer (some ⟨w.heap.size, 0, none⟩)] eg ⟨#[]⟩ Try.zeroValue9 g 0 cap ss.toArray W
        (fun W' x hb => gives s x _ W' ((hb.cell (p := ⟨w.heap.size, 0, none⟩) hB).trans hc))
        (fun n os dk x _ => gives s x _ _ (by
          unfold sortWorld
          rw [cell?_grow _ _ _ (by show w.heap.size < (putRow _ _ _ _ _).heap.size; rw [size_putRow]; exact hB), cell?_putRow_other _ _ g _ _ _ (Or.inl (by show w.heap.size ≠ g; omega))]
          exact hc))
        (holds_rowStrs hw) (by rw [hz]; omega) (by rw [hz]; exact hcap)
      rw [hz] at this
      refine this.mono ?_
      rintro e w' ⟨rfl, q, rfl⟩
      have hfl : (ss.toArray.toList.filter fun x => !isB s x) = withoutB ss s := by simp [withoutB, isB]
      rw [hfl]
      obtain ⟨cs, hW, hcs⟩ := hw
      have hr : RowStrs (putRow Value.string (Sort.ahead W q) g 0 (withoutB ss s ++ List.replicate (ss.length - (withoutB ss s).length) (⟨#[]⟩ : ByteArray)).toArray) g (withoutB ss s) := by
        refine ⟨_, whole_putRow hW q _, fun i hi => ?_⟩
        have hl := withoutB_len ss s
        unfold putCells
        rw [Array.getElem?_mapIdx]
        have hi' : i < ss.length := by omega
        rw [hcs i hi', Option.map_some]
        rw [if_pos (by simp; omega), getElem!_pos _ _ (by simp; omega)]
        simp [hi]
      exact ⟨_, g, cap, rfl, by omega, ⟨hr.lt, .inr ⟨rfl, hr⟩⟩, below_putRow hg q _⟩
  have HD := Lib.hid hdel
  have HE := Lib.hid eg
  clear hdel eg hs
  go_enter Try.func26, Try.ntmps26
  go_wp2_with fail
  have hb0 : Below w.heap.size w (w.alloc (.cells #[.string s] 9)) := (Below.refl _ _).alloc (Nat.le_refl _) _
  refine (hcp.out _ ((hA.below hb0).more hb0.size)).mono ?_
  rintro e w1 ⟨v, rfl, hw, hb⟩
  have hc0 : (w.alloc (.cells #[.string s] 9)).cell? ⟨w.heap.size, 0, none⟩ = some (.string s) := by simp
  have hc1 := (hb.cell (p := ⟨w.heap.size, 0, none⟩) (by simp)).trans hc0
  have hs1 := hb.size
  simp only [World.size_alloc] at hw hb hs1
  have HW := Lib.hid hw
  clear hc0 hw
  go_wp2_with fail
  refine (HD.out w1 v HW.out (by omega) hc1).mono ?_
  rintro e w2 ⟨A2, g2, cap2, rfl, hg2, hw2, hb2⟩
  clear hc1
  go_wp2
  go_ret
  exact ⟨A2, g2, cap2, rfl, hg2, hw2, (hb0.trans (hb.mono (by omega))).trans (hb2.mono (by omega))⟩

end Go.Proofs.Ytghipacdhpglcaa
