/- Plain laws of names: a name put at its place. -/
import Derived.Test.YtghipacdhpglcaaImplInsert
import Derived.Test.YtghipacdhpglcaaSpecWithout
namespace Go.Proofs.Ytghipacdhpglcaa
open Go.RowKit

theorem bytesLess_total : ∀ (x y : List UInt8), Op.bytesLess x y = false → x ≠ y → Op.bytesLess y x = true
  | [], [], _, h => absurd rfl h
  | [], _ :: _, h, _ => by simp [Op.bytesLess] at h
  | _ :: _, [], _, _ => rfl
  | a :: x, b :: y, h, hne => by
    simp only [Op.bytesLess, Bool.or_eq_false_iff, Bool.and_eq_false_iff, decide_eq_false_iff_not] at h
    obtain ⟨h1, h2⟩ := h
    simp only [Op.bytesLess, Bool.or_eq_true, Bool.and_eq_true, decide_eq_true_eq]
    by_cases e : a = b
    · subst e
      refine .inr ⟨by simp, bytesLess_total x y ?_ (fun e => hne (by rw [e]))⟩
      rcases h2 with h2 | h2
      · simp at h2
      · exact h2
    · left
      rw [UInt8.lt_iff_toNat_lt] at h1 ⊢
      have : a.toNat ≠ b.toNat := fun h => e (UInt8.toNat_inj.1 h)
      omega
theorem lessB_total (s t : ByteArray) (h : lessB s t = false) (hne : s ≠ t) : lessB t s = true :=
  bytesLess_total _ _ h (fun e => hne (WideShapes.bytes_inj e))

theorem ascB_of (ss : List ByteArray) (h : ascB ss = true) (k : Nat) (hk : k + 1 < ss.length) : lessB ss[k] ss[k + 1] = true := by
  unfold ascB at h
  rw [List.all_eq_true] at h
  have := h k (List.mem_range.2 (by omega))
  simpa [show k < ss.length by omega, hk] using this

theorem takeWhile_lt (p : ByteArray → Bool) : ∀ (ss : List ByteArray) (j : Nat) (hj : j < ss.length), j < (ss.takeWhile p).length → p ss[j] = true
  | [], j, hj, _ => absurd hj (by simp)
  | x :: r, j, hj, h => by
    rw [List.takeWhile_cons] at h
    cases hx : p x
    · rw [hx] at h; simp at h
    · cases j with
      | zero => exact hx
      | succ j =>
        rw [hx] at h
        exact takeWhile_lt p r j (by simpa using hj) (by simpa using h)
theorem takeWhile_end (p : ByteArray → Bool) : ∀ (ss : List ByteArray) (h : (ss.takeWhile p).length < ss.length), p ss[(ss.takeWhile p).length] = false
  | [], h => absurd h (by simp)
  | x :: r, h => by
    cases hx : p x
    · simp [hx]
    · simp only [List.takeWhile_cons, hx, if_true, List.length_cons, List.getElem_cons_succ] at h ⊢
      exact takeWhile_end p r (by omega)

theorem ascB_insert (ss : List ByteArray) (s : ByteArray) (h : ascB ss = true) : ascB (insertB ss s) = true := by
  have hp := placeB_le ss s
  have hlo : ∀ j, (hj : j < ss.length) → j < placeB ss s → lessB ss[j] s = true := fun j hj h => takeWhile_lt _ ss j hj h
  have hat : ∀ hj : placeB ss s < ss.length, lessB ss[placeB ss s] s = false := fun hj => takeWhile_end (fun x => lessB x s) ss hj
  have e0 := placeB_spec ss s
  generalize placeB ss s = p at *
  by_cases he : ss[p]? = some s
  · rw [e0, if_pos he, List.append_nil, List.take_append_drop]
    exact h
  · rw [if_neg he] at e0
    apply ascB_yes
    intro k hk h1
    have hlen : (insertB ss s).length = ss.length + 1 := by rw [e0]; simp; omega
    have hg : ∀ i, (hi : i < (insertB ss s).length) → some (insertB ss s)[i] = if i < p then ss[i]? else if i = p then some s else ss[i - 1]? := fun i hi => by
      rw [← ins_get ss s p i hp, ← e0, List.getElem?_eq_getElem hi]
    have ha := hg (k - 1) (by omega)
    have hb := hg k hk
    by_cases c1 : k < p
    · rw [if_pos (by omega), List.getElem?_eq_getElem (by omega)] at ha
      rw [if_pos c1, List.getElem?_eq_getElem (by omega)] at hb
      rw [Option.some.inj ha, Option.some.inj hb]
      have := ascB_of ss h (k - 1) (by omega)
      simpa [show k - 1 + 1 = k by omega] using this
    · by_cases c2 : k = p
      · rw [if_pos (by omega), List.getElem?_eq_getElem (by omega)] at ha
        rw [if_neg c1, if_pos c2] at hb
        rw [Option.some.inj ha, Option.some.inj hb]
        exact hlo _ _ (by omega)
      · rw [if_neg c1, if_neg c2, List.getElem?_eq_getElem (by omega)] at hb
        by_cases c3 : k - 1 = p
        · rw [if_neg (by omega), if_pos c3] at ha
          rw [Option.some.inj ha, Option.some.inj hb]
          have hpl : p < ss.length := by omega
          have hne : ss[p] ≠ s := fun e => he (by rw [List.getElem?_eq_getElem hpl, e])
          have := lessB_total _ _ (hat hpl) hne
          simpa [c3] using this
        · rw [if_neg (by omega), if_neg c3, List.getElem?_eq_getElem (by omega)] at ha
          rw [Option.some.inj ha, Option.some.inj hb]
          have := ascB_of ss h (k - 1 - 1) (by omega)
          simpa [show k - 1 - 1 + 1 = k - 1 by omega] using this

theorem mem_insert (ss : List ByteArray) (s : ByteArray) : s ∈ insertB ss s := by
  rw [placeB_spec]
  by_cases he : ss[placeB ss s]? = some s
  · rw [if_pos he, List.append_nil, List.take_append_drop]
    exact List.mem_of_getElem? he
  · rw [if_neg he]
    simp

theorem idxOf_mem (ss : List ByteArray) (s : ByteArray) (h : s ∈ ss) : 0 ≤ idxOf ss s := by
  unfold idxOf
  split
  · omega
  · rename_i hn
    rw [List.find?_eq_none] at hn
    obtain ⟨i, hi, e⟩ := List.getElem_of_mem h
    have := hn i (List.mem_range.2 hi)
    simp [hi, e] at this

theorem without_insert (ss : List ByteArray) (s : ByteArray) : withoutB (insertB ss s) s = withoutB ss s := by
  rw [placeB_spec]
  unfold withoutB
  rw [List.filter_append, List.filter_append]
  have : (if ss[placeB ss s]? = some s then ([] : List ByteArray) else [s]).filter (fun x => !(x.data.toList == s.data.toList)) = [] := by
    split
    · rfl
    · simp
  rw [this, List.append_nil, ← List.filter_append, List.take_append_drop]

theorem insert_mem (ss : List ByteArray) (s x : ByteArray) (h : x ∈ insertB ss s) : x = s ∨ x ∈ ss := by
  rw [placeB_spec] at h
  rcases List.mem_append.1 h with h | h
  · rcases List.mem_append.1 h with h | h
    · exact .inr (List.mem_of_mem_take h)
    · split at h
      · cases h
      · simp at h
        exact .inl h
  · exact .inr (List.mem_of_mem_drop h)

end Go.Proofs.Ytghipacdhpglcaa
