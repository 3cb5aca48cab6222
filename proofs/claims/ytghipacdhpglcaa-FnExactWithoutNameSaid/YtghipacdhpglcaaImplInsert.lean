/- impl.InsertName: the strings with s at its place, in a row of the call's own. -/
import Derived.Test.YtghipacdhpglcaaCopyNames
import Derived.Test.YtghipacdhpglcaaSpecInsert
import Derived.Test.YtghipacdhpglcaaRowS
namespace Go.Proofs.Ytghipacdhpglcaa
set_option maxRecDepth 100000
open Go.RowKit

theorem whole_setCells {g : Nat} {t : TypeId} : ∀ (vs : List Value) (o : Nat) (w : World) (cs : Array Value), Whole1 w g t cs → ∃ cs', Whole1 (w.setCells g o vs) g t cs' ∧ cs'.size = cs.size ∧ ∀ i, i < cs.size → cs'[i]? = if o ≤ i ∧ i < o + vs.length then vs[i - o]? else cs[i]?
  | [], _, _, cs, h => ⟨cs, h, rfl, fun i _ => by rw [if_neg (by simp)]⟩
  | v :: r, o, _, cs, h => by
    obtain ⟨cs', h1, h2, h3⟩ := whole_setCells r (o + 1) _ _ (h.set o v)
    refine ⟨cs', h1, by rw [h2]; simp, fun i hi => ?_⟩
    rw [h3 i (by simpa using hi)]
    by_cases e : o = i
    · subst e
      rw [if_neg (by omega), if_pos (by simp), Array.getElem?_setIfInBounds, if_pos rfl]
      simp [hi]
    · by_cases h4 : o + 1 ≤ i ∧ i < o + 1 + r.length
      · rw [if_pos h4, if_pos (by simp; omega), show i - o = (i - (o + 1)) + 1 by omega]
        rfl
      · rw [if_neg h4, if_neg (by simp; omega), Array.getElem?_setIfInBounds, if_neg e]
theorem below_setCells {B g : Nat} {a : World} (hg : B ≤ g) : ∀ (vs : List Value) (o : Nat) (x : World), Below B a x → Below B a (x.setCells g o vs)
  | [], _, _, h => h
  | v :: r, o, _, h => below_setCells hg r (o + 1) _ (h.setCell hg v)

theorem ins_get (ss : List ByteArray) (s : ByteArray) (p i : Nat) (hp : p ≤ ss.length) : (ss.take p ++ [s] ++ ss.drop p)[i]? = if i < p then ss[i]? else if i = p then some s else ss[i - 1]? := by
  by_cases h1 : i < p
  · rw [if_pos h1, List.append_assoc, List.getElem?_append_left (by simp; omega), List.getElem?_take, if_pos h1]
  · rw [if_neg h1, List.append_assoc, List.getElem?_append_right (by simp; omega), List.length_take, Nat.min_eq_left hp]
    by_cases h2 : i = p
    · rw [if_pos h2, h2, Nat.sub_self]
      rfl
    · rw [if_neg h2, show i - p = (i - p - 1) + 1 by omega]
      show (ss.drop p)[i - p - 1]? = _
      rw [List.getElem?_drop, show p + (i - p - 1) = i - 1 by omega]

/-- A new row, with room, that holds the strings ss. -/
def RowNew (w : World) (ss : List ByteArray) (e : Ending) (w' : World) : Prop :=
  ∃ g cap, e = .returned (.slice (some ⟨g, 0, none⟩) ss.length cap) ∧ w.heap.size ≤ g ∧ RowStrs w' g ss ∧ Below w.heap.size w w'

theorem insert_at (g p : Nat) (ss : List ByteArray) (s : ByteArray) (w : World) (hg : Whole1 w g 9 (strVals ss).toArray) (vb vc : Nat) (hv : w.cell? ⟨vb, 0, none⟩ = some (.string s)) (hp : p ≤ ss.length) (hn : ss.length ≤ 1048576) (l : List ByteArray) (hle : Hid (l = ss.take p ++ [s] ++ ss.drop p)) :
    Calls Try.prog 60 #[.slice (some ⟨g, 0, none⟩) ss.length ss.length, .int .i64 p, .slice (some ⟨vb, 0, none⟩) 1 vc] w (RowNew w l) := by
  rw [hle.out]
  have hvs : ∀ (j : Nat) v, [Value.string s][j]? = some v → w.cell? ⟨vb, 0 + j, none⟩ = some v := by
    intro j v h
    have h0 : j = 0 := by
      have := (List.getElem?_eq_some_iff.1 h).1
      simpa using this
    subst h0
    simp at h
    subst h
    exact hv
  have hl : (ss.take p ++ [s] ++ ss.drop p).length = ss.length + 1 := by simp; omega
  have h1v : ∀ v ∈ [Value.string s], v.oneCell' = true := by
    intro v h
    simp at h
    subst h
    rfl
  have hcs : ∀ (j : Nat) v, (strVals ss)[j]? = some v → w.cell? ⟨g, 0 + j, none⟩ = some v := fun j v h => by
    rw [Nat.zero_add, hg.cell]
    simpa using h
  by_cases hlt : p < ss.length
  · refine (Any2.slices_Insert_string_grow Try.laysInsert g 0 ss.length ss.length p vb 0 1 vc (strVals ss) [.string s] w hlt (by omega) (Nat.le_refl _) (by omega) (by omega) (by simp [strVals]) rfl hcs hvs (strVals_one ss) h1v).mono ?_
    rintro e w' ⟨rfl, rfl⟩
    refine ⟨w.heap.size, _, by rw [hl], Nat.le_refl _, ?_, ?_⟩
    · obtain ⟨c1, a1, a2, a3⟩ := whole_setCells [Value.string s] p _ _ (show Whole1 ((w.alloc (.cells (((strVals ss).take p).toArray ++ Builtin.zeroCells (Value.string ⟨#[]⟩).cells (ss.length + 1 - p) ++ Builtin.zeroCells (Value.string ⟨#[]⟩).cells (grownCap w (ss.length + 1) ss.length 9 - (ss.length + 1))) 9)).drew) w.heap.size 9 _ from Whole1.new w _ _)
      obtain ⟨c2, b1, b2, b3⟩ := whole_setCells ((strVals ss).drop p) (p + 1) _ _ (Whole1.drewN a1 1)
      refine ⟨c2, b1, fun i hi => ?_⟩
      rw [hl] at hi
      have hz : (strVals ss).length = ss.length := by simp [strVals]
      have hsz : ss.length + 1 ≤ c1.size := by
        rw [a2]
        simp only [Array.size_append, size_zeroCells, List.size_toArray, List.length_take, hz]
        show ss.length + 1 ≤ min p ss.length + (ss.length + 1 - p) * 1 + _
        omega
      have a3' := a3 i (by omega)
      have e : some (Value.string (ss.take p ++ [s] ++ ss.drop p)[i]) = ((ss.take p ++ [s] ++ ss.drop p)[i]?).map Value.string := by
        rw [List.getElem?_eq_getElem]
        rfl
      rw [e, ins_get ss s p i hp, b3 i (by omega)]
      by_cases h1 : i < p
      · rw [if_neg (by omega), a3', if_neg (by omega), if_pos h1, Array.getElem?_append_left (by simp only [Array.size_append, List.size_toArray, List.length_take, hz]; omega), Array.getElem?_append_left (by simp only [List.size_toArray, List.length_take, hz]; omega)]
        simp only [List.getElem?_toArray, List.getElem?_take, h1, if_true]
        simp [strVals]
      · rw [if_neg h1]
        by_cases h2 : i = p
        · subst h2
          rw [if_neg (by omega), a3', if_pos (by simp), if_pos rfl]
          simp
        · have h3 : p + 1 ≤ i := by omega
          rw [if_pos (by simp [hz]; omega), if_neg h2, List.getElem?_drop, show p + (i - (p + 1)) = i - 1 by omega]
          simp [strVals]
    · exact below_setCells (Nat.le_refl _) _ _ _ ((below_setCells (Nat.le_refl _) _ _ _ (((Below.refl _ _).alloc (Nat.le_refl _) _).drew)).drew)
  · have hpe : p = ss.length := by omega
    subst hpe
    refine (Any2.slices_Insert_string_end_grow Try.laysInsert (some ⟨g, 0, none⟩) ss.length ss.length vb 0 1 vc (strVals ss) [.string s] w (by omega) (Nat.le_refl _) (by omega) (by omega) (by simp [strVals]) rfl (by simp) (fun a ha j v h => by cases ha; rw [WideShapes.add_plain]; exact hcs j v h) hvs h1v).mono ?_
    rintro e w' ⟨rfl, rfl⟩
    refine ⟨w.heap.size, _, by rw [hl], Nat.le_refl _, ⟨_, Whole1.new w.drew _ _, fun i hi => ?_⟩, (Below.refl _ _).drew.alloc (Nat.le_refl _) _⟩
    rw [hl] at hi
    rw [Array.getElem?_append_left (by simp [strVals]; omega)]
    simp only [List.take_length, List.drop_length, List.append_nil]
    rw [List.getElem?_toArray]
    have e : strVals ss ++ [Value.string s] = (ss ++ [s]).map Value.string := by simp [strVals]
    rw [e, List.getElem?_map, List.getElem?_eq_getElem (by simp; omega)]
    rfl

theorem shape_whole {w : World} {g : Nat} {t : TypeId} {cs : Array Value} (h : Whole1 w g t cs) : w.shape? g = some (t, cs.size) := by
  unfold Whole1 at h
  simp [World.shape?, h]

/-- Onto a row of the call's own, with room or not, or onto nil. -/
theorem insert_own (base : Nat) (v : Value) (p : Nat) (ss : List ByteArray) (s : ByteArray) (w : World) (hown : w.ownsRow base 9 1 v ss.length (strVals ss)) (vb : Nat) (hvw : Whole1 w vb 9 #[.string s]) (hne : ∀ g, v.ownBlock = some g → vb ≠ g) (hb : base ≤ w.heap.size) (hp : p ≤ ss.length) (hn : ss.length ≤ 1048576) (l : List ByteArray) (hle : Hid (l = ss.take p ++ [s] ++ ss.drop p)) :
    Calls Try.prog 60 #[v, .int .i64 p, .slice (some ⟨vb, 0, none⟩) 1 1] w (fun e w' => ∃ g cap, e = .returned (.slice (some ⟨g, 0, none⟩) l.length cap) ∧ base ≤ g ∧ RowStrs w' g l ∧ Below base w w') := by
  have hv : w.cell? ⟨vb, 0, none⟩ = some (.string s) := by rw [hvw.cell]; rfl
  have hvs : ∀ (j : Nat) u, [Value.string s][j]? = some u → w.cell? ⟨vb, 0 + j, none⟩ = some u := by
    intro j u h
    have h0 : j = 0 := by
      have := (List.getElem?_eq_some_iff.1 h).1
      simpa using this
    subst h0
    simp at h
    subst h
    exact hv
  have h1v : ∀ u ∈ [Value.string s], u.oneCell' = true := by
    intro u h
    simp at h
    subst h
    rfl
  rcases hown.2 with ⟨rfl, h0⟩ | ⟨g, cap, cur, rfl, hg, h3, h4, h5, h6, h7⟩
  · have hss : ss = [] := List.length_eq_zero_iff.1 h0
    subst hss
    have hp0 : p = 0 := by simpa using hp
    subst hp0
    have hl1 : l = [s] := by rw [hle.out]; rfl
    subst hl1
    refine (Any2.slices_Insert_string_end_grow Try.laysInsert none 0 0 vb 0 1 1 [] [.string s] w (by omega) (Nat.le_refl _) (by omega) (by omega) rfl rfl (by simp) (fun a ha => by cases ha) hvs h1v).mono ?_
    rintro e w' ⟨rfl, rfl⟩
    refine ⟨w.heap.size, _, rfl, hb, ⟨_, Whole1.new w.drew _ _, fun i hi => ?_⟩, (Below.refl _ _).drew.alloc hb _⟩
    have hi0 : i = 0 := by simpa using hi
    subst hi0
    rw [Array.getElem?_append_left (by simp)]
    rfl
  · rw [Nat.mul_one] at h6 h7
    have hz : (strVals ss).length = ss.length := by simp [strVals]
    by_cases hroom : ss.length + 1 ≤ cap
    · rw [hle.out]
      have hl : (ss.take p ++ [s] ++ ss.drop p).length = ss.length + 1 := by simp; omega
      have hW : Whole1 w g 9 cur := h3
      have hcur : ∀ j : Nat, j < ss.length → cur[j]? = (strVals ss)[j]? := fun j hj => by
        rw [← h7, List.getElem?_take, if_pos hj]
        simp
      have hsome : ∀ j, j < cap → (w.cell? ⟨g, j, none⟩).isSome = true := fun j hj => by
        rw [hW.cell, Array.getElem?_eq_getElem (by omega)]
        rfl
      have hend : ∀ (c2 : Array Value) (w' : World), Whole1 w' g 9 c2 → (∀ i, i < ss.length + 1 → c2[i]? = if i < p then (strVals ss)[i]? else if i = p then some (.string s) else (strVals ss)[i - 1]?) → RowStrs w' g (ss.take p ++ [s] ++ ss.drop p) := fun c2 w' hW2 hc2 => ⟨c2, hW2, fun i hi => by
        rw [hl] at hi
        have e : some (Value.string (ss.take p ++ [s] ++ ss.drop p)[i]) = ((ss.take p ++ [s] ++ ss.drop p)[i]?).map Value.string := by
          rw [List.getElem?_eq_getElem]
          rfl
        rw [e, ins_get ss s p i hp, hc2 i hi]
        by_cases h1 : i < p
        · rw [if_pos h1, if_pos h1]
          simp [strVals]
        · rw [if_neg h1, if_neg h1]
          by_cases h2 : i = p
          · rw [if_pos h2, if_pos h2]
            rfl
          · rw [if_neg h2, if_neg h2]
            simp [strVals]⟩
      by_cases hlt : p < ss.length
      · refine (Any2.slices_Insert_string_shift Try.laysInsert g 0 ss.length cap p vb 0 1 1 (strVals ss) [.string s] w hlt (by omega) hroom h5 (hne g rfl) hz rfl (fun j u hj => by
            rw [Nat.zero_add, hW.cell, hcur j (by have := (List.getElem?_eq_some_iff.1 hj).1; omega), hj]) (fun j hj => by rw [Nat.zero_add]; exact hsome j (by omega)) (fun j _ => hW.free _) hvs (strVals_one ss) h1v _ _ _ _ (shape_whole hvw) (shape_whole hW) (by omega) (hvw.free _) (hvw.free _)).mono ?_
        rintro e w' ⟨rfl, rfl⟩
        obtain ⟨c1, a1, a2, a3⟩ := whole_setCells ((strVals ss).drop p) (0 + (p + 1)) _ _ (Whole1.drewN hW 1)
        obtain ⟨c2, b1, b2, b3⟩ := whole_setCells [Value.string s] (0 + p) _ _ a1
        refine ⟨g, cap, by rw [hl], hg, hend c2 _ b1 fun i hi => ?_, below_setCells hg _ _ _ (below_setCells hg _ _ _ (Below.refl _ _).drew)⟩
        rw [b3 i (by omega)]
        by_cases h1 : i < p
        · rw [if_neg (by simp; omega), a3 i (by omega), if_neg (by omega), if_pos h1, hcur i (by omega)]
        · rw [if_neg h1]
          by_cases h2 : i = p
          · subst h2
            rw [if_pos (by simp), if_pos rfl]
            simp
          · rw [if_neg (by simp; omega), if_neg h2, a3 i (by omega), if_pos (by simp [hz]; omega), List.getElem?_drop, show p + (i - (0 + (p + 1))) = i - 1 by omega]
      · have hpe : p = ss.length := by omega
        subst hpe
        refine (Any2.slices_Insert_string_end_room Try.laysInsert g 0 ss.length cap vb 0 1 1 [.string s] w (by omega) hroom h5 rfl (fun j hj => hsome _ (by omega)) (fun j _ => hW.free _) hvs h1v).mono ?_
        rintro e w' ⟨rfl, rfl⟩
        obtain ⟨c2, b1, b2, b3⟩ := whole_setCells [Value.string s] (0 + ss.length) _ _ hW
        refine ⟨g, cap, by rw [hl], hg, hend c2 _ b1 fun i hi => ?_, below_setCells hg _ _ _ (Below.refl _ _)⟩
        rw [b3 i (by omega)]
        by_cases h1 : i < ss.length
        · rw [if_neg (by simp; omega), if_pos h1, hcur i h1]
        · have h2 : i = ss.length := by omega
          subst h2
          rw [if_pos (by simp), if_neg h1, if_pos rfl]
          simp
    · have hce : cap = ss.length := by omega
      subst hce
      have hcs : cur = (strVals ss).toArray := by
        apply Array.ext'
        have : cur.toList.take ss.length = cur.toList := List.take_of_length_le (by simpa using Nat.le_of_eq (by omega))
        rw [this] at h7
        simpa using h7
      have hW : Whole1 w g 9 (strVals ss).toArray := by rw [← hcs]; exact h3
      refine (insert_at g p ss s w hW vb 1 hv hp hn l hle).mono ?_
      rintro e w' ⟨g3, cap3, rfl, hg3, hw3, hb3⟩
      exact ⟨g3, cap3, rfl, by omega, hw3, hb3.mono hb⟩

theorem placeB_spec (ss : List ByteArray) (s : ByteArray) : insertB ss s = ss.take (placeB ss s) ++ (if ss[placeB ss s]? = some s then [] else [s]) ++ ss.drop (placeB ss s) := by
  have hd : ss.dropWhile (fun x => lessB x s) = ss.drop (placeB ss s) := by
    unfold placeB
    conv => rhs; arg 2; rw [← List.takeWhile_append_dropWhile (p := fun x => lessB x s) (l := ss)]
    rw [List.drop_left]
  have ht : ss.takeWhile (fun x => lessB x s) = ss.take (placeB ss s) := by
    unfold placeB
    conv => rhs; arg 2; rw [← List.takeWhile_append_dropWhile (p := fun x => lessB x s) (l := ss)]
    rw [List.take_left]
  unfold insertB
  simp only [hd, ht, List.head?_drop]

theorem insertB_len (ss : List ByteArray) (s : ByteArray) : (insertB ss s).length ≤ ss.length + 1 := by
  have hp := placeB_le ss s
  rw [placeB_spec, List.length_append, List.length_append, List.length_take, List.length_drop]
  split
  · simp
    omega
  · simp
    omega

set_option maxHeartbeats 1000000 in
theorem implInsert_any (A : Option Addr) (c : Nat) (ss : List ByteArray) (s : ByteArray) (w : World) (hA : StrsAt w w.heap.size A ss) (hn : ss.length ≤ 1048576) (hs : ∀ i, (h : i < ss.length) → ss[i].size ≤ 1048576) (hz : s.size ≤ 1048576) :
    Calls Try.prog 15 #[.slice A ss.length c, .string s] w (RowNew w (insertB ss s)) := by
  have hpl := Lib.hid (placeOf_any A c w.heap.size ss s w hA (by unfold maxLen; omega))
  have hcp := Lib.hid (fun W h => copyNames_any A c ss W h hn hs)
  have hspec := Lib.hid (placeB_spec ss s)
  have hple := placeB_le ss s
  have HS := Lib.hid hs
  clear hs
  generalize hp : placeB ss s = p at *
  have HP := Lib.hid hp
  clear hp
  by_cases hlt : p < ss.length
  · have hltI : (p : Int) < (ss.length : Int) := by omega
    obtain ⟨b, off, rfl, hbl, hcell⟩ := hA p hlt
    have hA' := Lib.hid hA
    by_cases he : ss[p] = s
    · have hq : (ss[p].toList == s.toList) = true := by rw [he]; simp
      have hin : insertB ss s = ss := by
        rw [hspec.out, if_pos (by rw [List.getElem?_eq_getElem hlt, he])]
        simp
      have HI := Lib.hid hin
      clear hin he hA
      go_enter Try.func15, Try.ntmps15
      go_wp2_with fail
      refine hpl.out.mono ?_
      rintro e w1 ⟨rfl, rfl⟩
      go_wp2_with fail
      refine (hcp.out w hA'.out).mono ?_
      rintro e w1 ⟨v, rfl, hw, hb⟩
      have HW := Lib.hid hw
      clear hw
      go_wp2
      go_ret
      rw [HI.out]
      rcases RowStrs.of_own HW.out with ⟨_, h0⟩ | ⟨g, cap, rfl, h1, h2⟩
      · subst h0
        exact absurd hlt (by simp)
      · exact ⟨g, cap, rfl, h1, h2, hb⟩
    · have hq : (ss[p].toList == s.toList) = false := by
        rw [beq_eq_false_iff_ne, ByteArray.toList_eq, ByteArray.toList_eq]
        exact fun e => he (WideShapes.bytes_inj e)
      have hin : insertB ss s = ss.take p ++ [s] ++ ss.drop p := by
        rw [hspec.out, if_neg (by rw [List.getElem?_eq_getElem hlt]; exact fun e => he (Option.some.inj e))]
      have HI := Lib.hid hin
      clear hin he hA
      go_enter Try.func15, Try.ntmps15
      go_wp2_with fail
      refine hpl.out.mono ?_
      rintro e w1 ⟨rfl, rfl⟩
      go_wp2_with fail
      refine (hcp.out w hA'.out).mono ?_
      rintro e w1 ⟨v, rfl, hw, hb⟩
      have HW := Lib.hid hw
      clear hw
      go_wp2_with fail
      refine (clone_any s w1 hz).mono ?_
      rintro e w2 ⟨rfl, hb2⟩
      have hb2' := hb.trans (hb2.mono hb.size)
      have hs2 := hb2.size
      have hw2 := (owns_keep HW.out fun g hg => hb2.block g (HW.out.lt g hg).2).alloc (.cells #[.string s] 9)
      have HW2 := Lib.hid hw2
      clear hw2
      go_wp2_with fail
      refine (insert_own w.heap.size v p ss s _ HW2.out w2.heap.size (Whole1.new _ _ _) (fun g hg => by have := (HW.out.lt g hg).2; omega) (by have := hb2'.size; simp; omega) (by omega) hn _ HI).mono ?_
      rintro e w3 ⟨g3, cap3, rfl, hg3, hw3, hb3⟩
      have hb3' : Below w.heap.size w w3 := (hb2'.alloc hb2'.size _).trans hb3
      go_wp2
      go_ret
      exact ⟨g3, cap3, rfl, hg3, hw3, hb3'⟩
  · have hltI : ¬ (p : Int) < (ss.length : Int) := by omega
    have hA' := Lib.hid hA
    have hin : insertB ss s = ss.take p ++ [s] ++ ss.drop p := by
      rw [hspec.out, if_neg (by rw [List.getElem?_eq_none (by omega)]; simp)]
    have HI := Lib.hid hin
    clear hin hA
    go_enter Try.func15, Try.ntmps15
    go_wp2_with fail
    refine hpl.out.mono ?_
    rintro e w1 ⟨rfl, rfl⟩
    go_wp2_with fail
    refine (hcp.out w hA'.out).mono ?_
    rintro e w1 ⟨v, rfl, hw, hb⟩
    have HW := Lib.hid hw
    clear hw
    go_wp2_with fail
    refine (clone_any s w1 hz).mono ?_
    rintro e w2 ⟨rfl, hb2⟩
    have hb2' := hb.trans (hb2.mono hb.size)
    have hs2 := hb2.size
    have hw2 := (owns_keep HW.out fun g hg => hb2.block g (HW.out.lt g hg).2).alloc (.cells #[.string s] 9)
    have HW2 := Lib.hid hw2
    clear hw2
    go_wp2_with fail
    refine (insert_own w.heap.size v p ss s _ HW2.out w2.heap.size (Whole1.new _ _ _) (fun g hg => by have := (HW.out.lt g hg).2; omega) (by have := hb2'.size; simp; omega) (by omega) hn _ HI).mono ?_
    rintro e w3 ⟨g3, cap3, rfl, hg3, hw3, hb3⟩
    have hb3' : Below w.heap.size w w3 := (hb2'.alloc hb2'.size _).trans hb3
    go_wp2
    go_ret
    exact ⟨g3, cap3, rfl, hg3, hw3, hb3'⟩

end Go.Proofs.Ytghipacdhpglcaa
