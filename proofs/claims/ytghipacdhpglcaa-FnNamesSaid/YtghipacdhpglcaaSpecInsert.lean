/- spec.InsertName and spec.WithoutName. -/
import Derived.Test.YtghipacdhpglcaaAppend
import Derived.Test.YtghipacdhpglcaaSpecNames
import Derived.Test.YtghipacdhpglcaaToS
import Derived.Deep.DeepMust
namespace Go.Proofs.Ytghipacdhpglcaa
set_option maxRecDepth 100000
open Go.RowKit

/-- s put at its place. -/
def insertB (ss : List ByteArray) (s : ByteArray) : List ByteArray :=
  let r := ss.dropWhile fun x => lessB x s
  (ss.takeWhile fun x => lessB x s) ++ (if r.head? = some s then [] else [s]) ++ r
theorem while_at (p : ByteArray → Bool) : ∀ (ss : List ByteArray) (k : Nat), k ≤ ss.length → (∀ j, (hj : j < ss.length) → j < k → p ss[j] = true) → (∀ h : k < ss.length, p ss[k] = false) → ss.takeWhile p = ss.take k ∧ ss.dropWhile p = ss.drop k
  | [], k, hk, _, _ => by simp
  | x :: r, 0, _, _, h2 => by
    have := h2 (by simp)
    simp at this
    simp [this]
  | x :: r, k + 1, hk, h1, h2 => by
    have hx : p x = true := h1 0 (by simp) (by omega)
    have ih := while_at p r k (by simpa using hk) (fun j hj h => h1 (j + 1) (by simpa using hj) (by omega)) (fun h => h2 (by simpa using h))
    simp [hx, ih.1, ih.2]
theorem insertB_at (ss : List ByteArray) (s : ByteArray) (k : Nat) (hk : k ≤ ss.length) (h1 : ∀ j, (hj : j < ss.length) → j < k → lessB ss[j] s = true) (h2 : ∀ h : k < ss.length, lessB ss[k] s = false) :
    insertB ss s = ss.take k ++ (if ss[k]? = some s then [] else [s]) ++ ss.drop k := by
  have h := while_at (fun x => lessB x s) ss k hk h1 h2
  unfold insertB
  simp only [h.1, h.2, List.head?_drop]

/-- A slice of the call's own that holds the strings ss, with its room. -/
def OwnStrsC (w : World) (ss : List ByteArray) (e : Ending) (w' : World) : Prop :=
  ∃ v, e = .returned v ∧ w'.ownsRow w.heap.size 9 1 v ss.length (strVals ss) ∧ Below w.heap.size w w'

theorem StrsAt.take {w : World} {B : Nat} {A : Option Addr} {ss : List ByteArray} (h : StrsAt w B A ss) (k : Nat) : StrsAt w B A (ss.take k) := fun i hi => by
  have hi' : i < ss.length := by rw [List.length_take] at hi; omega
  obtain ⟨b, off, h1, h2, h3⟩ := h i hi'
  exact ⟨b, off, h1, h2, by rw [h3, List.getElem_take]⟩
theorem StrsAt.drop {w : World} {B b off k : Nat} {ss : List ByteArray} (h : StrsAt w B (some ⟨b, off, none⟩) ss) : StrsAt w B (some ⟨b, off + k, none⟩) (ss.drop k) := fun i hi => by
  have hi' : k + i < ss.length := by rw [List.length_drop] at hi; omega
  obtain ⟨b', off', h1, h2, h3⟩ := h (k + i) hi'
  cases h1
  exact ⟨_, _, rfl, h2, by rw [Nat.add_assoc, h3, List.getElem_drop]⟩

set_option maxHeartbeats 2000000 in
theorem specInsertName_cons (b off c : Nat) (ss : List ByteArray) (s : ByteArray) (w : World) (hA : StrsAt w w.heap.size (some ⟨b, off, none⟩) ss) (hn : ss.length ≤ 1048576) (hc : ss.length ≤ c) :
    Calls Try.prog 21 #[.slice (some ⟨b, off, none⟩) ss.length c, .string s] w (OwnStrsC w (insertB ss s)) := by
  obtain ⟨i0, hi, hz0, hz1, hz2⟩ := info_parts infoString
  have hE0 : (w.alloc (.cells #[] 9)).ownsRow w.heap.size 9 1 (.slice (some ⟨w.heap.size, 0, none⟩) 0 0) 0 [] := World.ownsRow_lit w #[] 0 (Nat.le_refl _) (Nat.zero_le _) rfl
  have hB0 : Below w.heap.size w (w.alloc (.cells #[] 9)) := (Below.refl _ _).alloc (Nat.le_refl _) _
  go_enter Try.func21, Try.ntmps21
  go_wp2
  go_loop [5] (fun i => ∃ k : Nat, k ≤ ss.length ∧ i = .int .i64 k ∧ ∀ j, (hj : j < ss.length) → j < k → lessB ss[j] s = true) (fun i => ss.length - (intOf i).toNat)
  case atStart => exact ⟨0, Nat.zero_le _, rfl, fun j _ h => absurd h (by omega)⟩
  case round =>
    obtain ⟨k, hk, rfl, hall⟩ := hrel
    have HA := Lib.hid hall
    clear hall
    have hkc : (k : Int) ≤ (c : Int) := by omega
    by_cases hlt : k < ss.length
    · obtain ⟨_, _, e, _, hcell⟩ := hA k hlt
      cases e
      have hltI : (k : Int) < (ss.length : Int) := by omega
      have hckn : ¬ c = k := by omega
      have hcell0 : (w.alloc (.cells #[] 9)).cell? ⟨b, off + k, none⟩ = some (.string ss[k]) := (hB0.cell (p := ⟨b, off + k, none⟩) (block_lt_of_cell hcell)).trans hcell
      cases hles : lessB ss[k] s
      · have hq : Op.bytesLess ss[k].toList s.toList = false := by rw [ByteArray.toList_eq, ByteArray.toList_eq]; exact hles
        have hin := Lib.hid (insertB_at ss s k hk HA.out (fun _ => hles))
        clear hles
        have hkI : ((k : Int) == (ss.length : Int)) = false := by rw [beq_eq_false_iff_ne]; omega
        by_cases he : ss[k] = s
        · have hsome : (ss[k]? = some s) := by rw [List.getElem?_eq_getElem hlt, he]
          have hseq : (ss[k].toList == s.toList) = true := by rw [he]; simp
          have hs2 := Lib.hid hsome
          clear hsome he
          go_wp2_with (first
            | (at_builtin; refine wpList_append_cells _ rfl (.tmp 21) (.tmp 24) _ rfl w.heap.size 9 i0 (.string ⟨#[]⟩) 1 16 Try.underlying24 hi hz0 hz1 hz2 rfl (by decide) _ 0 [] rfl hE0 (some ⟨b, off, none⟩) k c (strVals (ss.take k)) rfl (by simp [strVals]; try omega) ((hA.below hB0).take k).cells (strVals_one _) (by unfold maxLen; omega) (by omega) (by simp) ?_; intro v1 w1 hown1 hg1; have hb1 := hB0.grown hg1 (by simp) (fun q hq => (hE0.lt q hq).1); have hcell1 := (hb1.cell (p := ⟨b, off + k, none⟩) (block_lt_of_cell hcell)).trans hcell)
            | (at_builtin; refine wpList_append_cells _ rfl (.tmp 42) (.tmp 45) _ rfl w.heap.size 9 i0 (.string ⟨#[]⟩) 1 16 Try.underlying24 hi hz0 hz1 hz2 rfl (by decide) v1 _ _ rfl hown1 (some ⟨b, off + k, none⟩) (ss.length - k) _ (strVals (ss.drop k)) rfl (by simp [strVals]) ((hA.below hb1).drop (k := k)).cells (strVals_one _) (by unfold maxLen; simp; omega) (by simp; omega) hb1.size ?_; intro v3 w3 hown3 hg3; have hb3 := hb1.grown hg3 hb1.size (fun q hq => (hown1.lt q hq).1)))
          all_goals go_ret
          all_goals exact ⟨v3, rfl, own_strs hown3 (by rw [hin.out]; simp [strVals, hs2.out]), hb3⟩
        · have hsome : ¬ (ss[k]? = some s) := by rw [List.getElem?_eq_getElem hlt]; exact fun e => he (Option.some.inj e)
          have hsne : (ss[k].toList == s.toList) = false := by
            rw [beq_eq_false_iff_ne, ByteArray.toList_eq, ByteArray.toList_eq]
            exact fun e => he (WideShapes.bytes_inj e)
          have hs2 := Lib.hid hsome
          clear hsome he
          go_wp2_with (first
            | (at_builtin; refine wpList_append_cells _ rfl (.tmp 21) (.tmp 24) _ rfl w.heap.size 9 i0 (.string ⟨#[]⟩) 1 16 Try.underlying24 hi hz0 hz1 hz2 rfl (by decide) _ 0 [] rfl hE0 (some ⟨b, off, none⟩) k c (strVals (ss.take k)) rfl (by simp [strVals]; try omega) ((hA.below hB0).take k).cells (strVals_one _) (by unfold maxLen; omega) (by omega) (by simp) ?_; intro v1 w1 hown1 hg1; have hb1 := hB0.grown hg1 (by simp) (fun q hq => (hE0.lt q hq).1); have hcell1 := (hb1.cell (p := ⟨b, off + k, none⟩) (block_lt_of_cell hcell)).trans hcell)
            | (at_builtin; refine wpList_append_cells _ rfl (.tmp 38) (.tmp 40) _ rfl w.heap.size 9 i0 (.string ⟨#[]⟩) 1 16 Try.underlying24 hi hz0 hz1 hz2 rfl (by decide) v1 _ _ rfl (hown1.alloc _) (some ⟨w1.heap.size, 0, none⟩) 1 1 [.string s] rfl rfl (.inr ⟨_, rfl, cellNew w1 9 _⟩) (by intro u hu; simp at hu; subst hu; rfl) (by unfold maxLen; omega) (by omega) (by have := hb1.size; simp; omega) ?_; intro v2 w2 hown2 hg2; have hb2 := (hb1.alloc hb1.size _).grown hg2 (by have := hb1.size; simp; omega) (fun q hq => (hown1.lt q hq).1))
            | (at_builtin; refine wpList_append_cells _ rfl (.tmp 42) (.tmp 45) _ rfl w.heap.size 9 i0 (.string ⟨#[]⟩) 1 16 Try.underlying24 hi hz0 hz1 hz2 rfl (by decide) v2 _ _ rfl hown2 (some ⟨b, off + k, none⟩) (ss.length - k) _ (strVals (ss.drop k)) rfl (by simp [strVals]) ((hA.below hb2).drop (k := k)).cells (strVals_one _) (by unfold maxLen; simp; omega) (by simp; omega) hb2.size ?_; intro v3 w3 hown3 hg3; have hb3 := hb2.grown hg3 hb2.size (fun q hq => (hown2.lt q hq).1)))
          all_goals go_ret
          all_goals exact ⟨v3, rfl, own_strs hown3 (by rw [hin.out]; simp [strVals, hs2.out]), hb3⟩
      · have hq : Op.bytesLess ss[k].toList s.toList = true := by rw [ByteArray.toList_eq, ByteArray.toList_eq]; exact hles
        have HE := Lib.hid hles
        clear hles
        go_wp2
        go_round
        case rel =>
          refine ⟨k + 1, by omega, by go_num, fun j hj h => ?_⟩
          by_cases e : j = k
          · subst e
            exact HE.out
          · exact HA.out j hj (by omega)
        case measure => simp [intOf]; omega
    · have hke : k = ss.length := by omega
      have hsome : ¬ (ss[k]? = some s) := by rw [List.getElem?_eq_none (by omega)]; simp
      have hs2 := Lib.hid hsome
      have hin := Lib.hid (insertB_at ss s k hk HA.out (fun h => absurd h hlt))
      have hkI : ((k : Int) == (ss.length : Int)) = true := by rw [beq_iff_eq]; omega
      have hltI : ¬ (k : Int) < (ss.length : Int) := by omega
      have hdr : ss.drop k = [] := List.drop_eq_nil_of_le (by omega)
      have HD := Lib.hid hdr
      clear hsome hke hdr
      go_wp2_with (first
        | (at_builtin; refine wpList_append_cells _ rfl (.tmp 21) (.tmp 24) _ rfl w.heap.size 9 i0 (.string ⟨#[]⟩) 1 16 Try.underlying24 hi hz0 hz1 hz2 rfl (by decide) _ 0 [] rfl hE0 (some ⟨b, off, none⟩) k c (strVals (ss.take k)) rfl (by simp [strVals]; try omega) ((hA.below hB0).take k).cells (strVals_one _) (by unfold maxLen; omega) (by omega) (by simp) ?_; intro v1 w1 hown1 hg1; have hb1 := hB0.grown hg1 (by simp) (fun q hq => (hE0.lt q hq).1))
        | (at_builtin; refine wpList_append_cells _ rfl (.tmp 38) (.tmp 40) _ rfl w.heap.size 9 i0 (.string ⟨#[]⟩) 1 16 Try.underlying24 hi hz0 hz1 hz2 rfl (by decide) v1 _ _ rfl (hown1.alloc _) (some ⟨w1.heap.size, 0, none⟩) 1 1 [.string s] rfl rfl (.inr ⟨_, rfl, cellNew w1 9 _⟩) (by intro u hu; simp at hu; subst hu; rfl) (by unfold maxLen; omega) (by omega) (by have := hb1.size; simp; omega) ?_; intro v2 w2 hown2 hg2; have hb2 := (hb1.alloc hb1.size _).grown hg2 (by have := hb1.size; simp; omega) (fun q hq => (hown1.lt q hq).1))
        | (at_builtin; refine wpList_append_cells _ rfl (.tmp 42) (.tmp 45) _ rfl w.heap.size 9 i0 (.string ⟨#[]⟩) 1 16 Try.underlying24 hi hz0 hz1 hz2 rfl (by decide) v2 _ _ rfl hown2 _ (ss.length - k) _ (strVals (ss.drop k)) rfl (by simp [strVals]) (.inl (by rw [HD.out]; rfl)) (strVals_one _) (by unfold maxLen; simp; omega) (by simp; omega) hb2.size ?_; intro v3 w3 hown3 hg3; have hb3 := hb2.grown hg3 hb2.size (fun q hq => (hown2.lt q hq).1)))
      all_goals go_ret
      all_goals exact ⟨v3, rfl, own_strs hown3 (by rw [hin.out]; simp [strVals, hs2.out]), hb3⟩

end Go.Proofs.Ytghipacdhpglcaa
