/- Joining the pieces gives the string again; no piece holds the separator. -/
import Derived.Test.YthplgklegoeelaaDoorSplitLaws
import Derived.Test.YthplgklegoeelaaDoorJoinFn
namespace Go.Proofs.YthplgklegoeelaaDoor

theorem joinTo_cons (x : ByteArray) (ss : List ByteArray) (sep : ByteArray) : ∀ k, k ≤ ss.length → joinTo (x :: ss) sep (k + 1) = x.data.toList ++ (if k = 0 then [] else sep.data.toList ++ joinTo ss sep k)
  | 0, _ => by simp [joinTo]
  | k + 1, h => by
    have ih := joinTo_cons x ss sep k (by omega)
    rw [joinTo, ih]
    simp only [List.getD_cons_succ]
    rw [if_pos (show 0 < k + 1 by omega), if_neg (show ¬ k + 1 = 0 by omega), joinTo]
    by_cases h0 : k = 0
    · subst h0
      simp [joinTo]
    · rw [if_neg h0, if_pos (show 0 < k by omega)]
      simp only [List.append_assoc]

def toB (l : List UInt8) : ByteArray := ⟨l.toArray⟩
theorem toB_data (l : List UInt8) : (toB l).data.toList = l := by simp [toB]
theorem splitL_cons (c : UInt8) (l : List UInt8) : ∃ h t, splitL c l = h :: t := by
  cases l with
  | nil => exact ⟨_, _, rfl⟩
  | cons b r =>
    rw [splitL]
    split
    · exact ⟨_, _, rfl⟩
    · exact ⟨_, _, rfl⟩

theorem join_split (c : UInt8) : ∀ l : List UInt8, joinTo ((splitL c l).map toB) ⟨#[c]⟩ (splitL c l).length = l
  | [] => by simp [splitL, joinTo, toB]
  | b :: r => by
    have ih := join_split c r
    obtain ⟨h, t, e⟩ := splitL_cons c r
    rw [splitL]
    by_cases hb : b = c
    · subst hb
      rw [if_pos rfl, List.map_cons, List.length_cons, joinTo_cons _ _ _ _ (by simp), if_neg (by rw [e]; simp), ih, toB_data]
      rfl
    · rw [if_neg hb, e]
      rw [e, List.map_cons, List.length_cons, joinTo_cons _ _ _ _ (by simp), toB_data] at ih
      simp only [List.headD_cons, List.tail_cons]
      rw [List.map_cons, List.length_cons, joinTo_cons _ _ _ _ (by simp), toB_data, List.cons_append, ih]

theorem join_pieces (c : UInt8) (s : ByteArray) : joinTo (pieces c s) ⟨#[c]⟩ (pieces c s).length = s.data.toList := by
  have := join_split c s.data.toList
  show joinTo ((splitL c s.data.toList).map toB) ⟨#[c]⟩ ((splitL c s.data.toList).map toB).length = _
  rw [List.length_map]
  exact this

theorem splitL_free (c : UInt8) : ∀ (l : List UInt8), ∀ x ∈ splitL c l, c ∉ x
  | [], x, hx => by simp [splitL] at hx; simp [hx]
  | b :: r, x, hx => by
    rw [splitL] at hx
    split at hx
    · rcases List.mem_cons.1 hx with rfl | hx
      · simp
      · exact splitL_free c r x hx
    · rename_i hb
      obtain ⟨h, t, e⟩ := splitL_cons c r
      rw [e] at hx
      rcases List.mem_cons.1 hx with rfl | hx
      · simp only [List.headD_cons, List.mem_cons, not_or]
        exact ⟨fun h' => hb h'.symm, splitL_free c r h (by rw [e]; simp)⟩
      · exact splitL_free c r x (by rw [e]; exact List.mem_cons_of_mem _ hx)

theorem piece_alone (c : UInt8) (s : ByteArray) (i : Nat) (h : i < (pieces c s).length) : (pieces c (pieces c s)[i]).length = 1 := by
  have hm : (pieces c s)[i].data.toList ∈ splitL c s.data.toList := by
    rw [← pieces_data]
    exact List.mem_map.2 ⟨_, List.getElem_mem h, rfl⟩
  rw [pieces, splitL_none c _ (splitL_free c _ _ hm)]
  rfl
theorem pieces_sum (c : UInt8) (s : ByteArray) : sumSizes (pieces c s) ≤ s.size := by
  have h : ∀ l : List UInt8, ((splitL c l).map List.length).sum ≤ l.length := by
    intro l
    induction l with
    | nil => simp [splitL]
    | cons b r ih =>
      obtain ⟨h, t, e⟩ := splitL_cons c r
      rw [splitL]
      split
      · simp only [List.map_cons, List.sum_cons, List.length_nil, List.length_cons]
        omega
      · rw [e] at ih ⊢
        simp only [List.map_cons, List.sum_cons, List.headD_cons, List.tail_cons, List.length_cons] at ih ⊢
        omega
  have := h s.data.toList
  rw [← pieces_data, List.map_map] at this
  have e1 : s.data.toList.length = s.size := by simp
  have e2 : (pieces c s).map (List.length ∘ fun x => x.data.toList) = (pieces c s).map (·.size) := List.map_congr_left (fun x _ => by simp)
  rw [e2, e1] at this
  exact this

end Go.Proofs.YthplgklegoeelaaDoor
