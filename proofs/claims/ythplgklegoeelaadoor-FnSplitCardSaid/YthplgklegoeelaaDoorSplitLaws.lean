/- Splitting at a byte, free of the program. -/
import Derived.Lib.Split
import Derived.Lib.SplitLaws
import Derived.Lib.IndexMore
namespace Go.Proofs.YthplgklegoeelaaDoor

def splitL (c : UInt8) : List UInt8 → List (List UInt8)
  | [] => [[]]
  | b :: r => if b = c then [] :: splitL c r else (b :: (splitL c r).headD []) :: (splitL c r).tail

theorem splitL_none (c : UInt8) : ∀ l : List UInt8, c ∉ l → splitL c l = [l]
  | [], _ => rfl
  | b :: r, h => by
    simp only [List.mem_cons, not_or] at h
    rw [splitL, if_neg (Ne.symm h.1), splitL_none c r h.2]
    rfl
theorem splitL_hit (c : UInt8) : ∀ (a r : List UInt8), c ∉ a → splitL c (a ++ c :: r) = a :: splitL c r
  | [], r, _ => by rw [List.nil_append, splitL, if_pos rfl]
  | b :: a, r, h => by
    simp only [List.mem_cons, not_or] at h
    rw [List.cons_append, splitL, if_neg (Ne.symm h.1), splitL_hit c a r h.2]
    rfl

theorem occ_one (l : List UInt8) (c : UInt8) (j : Nat) : Lib.occAt l [c] j = true ↔ l[j]? = some c := by
  unfold Lib.occAt
  rw [← List.head?_drop]
  cases l.drop j with
  | nil => simp
  | cons b r =>
    show ((c == b) && true) = true ↔ some b = some c
    rw [Bool.and_true, beq_iff_eq, Option.some.injEq]
    exact eq_comm

theorem splitK_all (c : UInt8) : ∀ (n : Nat) (l : List UInt8), l.length = n → Lib.splitK [c] 0 (Lib.count l [c]) l = splitL c l := by
  intro n
  induction n using Nat.strongRecOn with
  | ind n ih =>
    intro l hl
    rcases Lib.index_spec l [c] with ⟨h1, h2⟩ | ⟨i, h1, h2, h3, h4⟩
    · rw [Lib.count_miss h1, Lib.splitK, splitL_none c l]
      intro hm
      obtain ⟨j, hj, e⟩ := List.getElem_of_mem hm
      have := h2 j (by omega)
      rw [← Bool.not_eq_true, occ_one] at this
      exact this (by rw [List.getElem?_eq_getElem hj, e])
    · have hi : l[i]? = some c := (occ_one l c i).1 h3
      obtain ⟨hil, hic⟩ := List.getElem?_eq_some_iff.1 hi
      have hl' : l = l.take i ++ c :: l.drop (i + 1) := by
        conv => lhs; rw [← List.take_append_drop i l, List.drop_eq_getElem_cons hil, hic]
      have hno : c ∉ l.take i := by
        intro hm
        obtain ⟨j, hj, e⟩ := List.getElem_of_mem hm
        rw [List.length_take] at hj
        rw [List.getElem_take] at e
        have := h4 j (by omega)
        rw [← Bool.not_eq_true, occ_one] at this
        exact this (by rw [List.getElem?_eq_getElem (by omega), e])
      rw [Lib.count_hit (by simp) h1, Nat.add_comm 1, Lib.splitK, if_neg (by rw [h1, beq_iff_eq]; omega), h1]
      have e1 : ((i : Int)).toNat = i := by omega
      simp only [e1, Nat.add_zero, List.length_singleton]
      rw [ih (l.drop (i + 1)).length (by rw [List.length_drop]; omega) _ rfl]
      conv => rhs; rw [hl']
      rw [splitL_hit c _ _ hno]

/-- The pieces of s at c. -/
def pieces (c : UInt8) (s : ByteArray) : List ByteArray := (splitL c s.data.toList).map fun l => ⟨l.toArray⟩

theorem ext_data {a b : ByteArray} (h : a.data.toList = b.data.toList) : a = b := by
  cases a; cases b
  simp at h
  rw [h]
theorem map_data_inj : ∀ {a b : List ByteArray}, a.map (·.data.toList) = b.map (·.data.toList) → a = b
  | [], [], _ => rfl
  | [], _ :: _, h => by simp at h
  | _ :: _, [], h => by simp at h
  | x :: a, y :: b, h => by
    simp only [List.map_cons, List.cons.injEq] at h
    rw [ext_data h.1, map_data_inj h.2]
theorem pieces_data (c : UInt8) (s : ByteArray) : (pieces c s).map (·.data.toList) = splitL c s.data.toList := by simp [pieces, Function.comp_def]

theorem splitB_pieces (c : UInt8) (s : ByteArray) : Lib.splitB ⟨#[c]⟩ 0 (Lib.countB s ⟨#[c]⟩) s = pieces c s := by
  apply map_data_inj
  rw [Lib.splitB_data, pieces_data]
  exact splitK_all c _ _ rfl

theorem pieces_len (c : UInt8) (s : ByteArray) : (pieces c s).length = Lib.countB s ⟨#[c]⟩ + 1 := by
  rw [← splitB_pieces]
  exact Lib.splitB_all ⟨#[c]⟩ (Nat.le_refl 1) 0 _ s rfl
theorem pieces_short (c : UInt8) (s : ByteArray) : (pieces c s).length ≤ s.size + 1 := by
  rw [pieces_len]
  have := Lib.countB_le ⟨#[c]⟩ (Nat.le_refl 1) s.size s (Nat.le_refl _)
  omega

theorem splitL_sub (c : UInt8) : ∀ (l : List UInt8), ∀ x ∈ splitL c l, x.length ≤ l.length
  | [], x, hx => by simp [splitL] at hx; simp [hx]
  | b :: r, x, hx => by
    rw [splitL] at hx
    split at hx
    · rcases List.mem_cons.1 hx with rfl | hx
      · simp
      · have := splitL_sub c r x hx
        simp
        omega
    · rcases List.mem_cons.1 hx with rfl | hx
      · have : ((splitL c r).headD []).length ≤ r.length := by
          cases h : splitL c r with
          | nil => simp
          | cons y t => exact splitL_sub c r y (by rw [h]; simp)
        rw [List.length_cons, List.length_cons]
        omega
      · have := splitL_sub c r x (List.mem_of_mem_tail hx)
        simp
        omega
theorem pieces_size (c : UInt8) (s : ByteArray) (i : Nat) (h : i < (pieces c s).length) : (pieces c s)[i].size ≤ s.size := by
  have hm : (pieces c s)[i].data.toList ∈ splitL c s.data.toList := by
    rw [← pieces_data]
    exact List.mem_map.2 ⟨_, List.getElem_mem h, rfl⟩
  have := splitL_sub c _ _ hm
  have e1 : (pieces c s)[i].data.toList.length = (pieces c s)[i].size := by simp
  have e2 : s.data.toList.length = s.size := by simp
  omega

end Go.Proofs.YthplgklegoeelaaDoor
