/- spec.WithoutName. -/
import Derived.Test.YtghipacdhpglcaaAppend
import Derived.Test.YtghipacdhpglcaaToS
namespace Go.Proofs.Ytghipacdhpglcaa
open Go.RowKit

/-- The strings but s. -/
def withoutB (ss : List ByteArray) (s : ByteArray) : List ByteArray := ss.filter fun x => !(x.data.toList == s.data.toList)
theorem withoutB_succ (ss : List ByteArray) (s : ByteArray) (k : Nat) (h : k < ss.length) : withoutB (ss.take (k + 1)) s = withoutB (ss.take k) s ++ (if ss[k].data.toList = s.data.toList then [] else [ss[k]]) := by
  unfold withoutB
  rw [List.take_succ_eq_append_getElem h, List.filter_append]
  congr 1
  by_cases e : ss[k].data.toList = s.data.toList
  · rw [if_pos e, List.filter_cons, e]; simp
  · rw [if_neg e, List.filter_cons, if_pos (by simpa using fun h => e (by rw [h]))]
    rfl
theorem withoutB_len (ss : List ByteArray) (s : ByteArray) : (withoutB ss s).length ≤ ss.length := List.length_filter_le _ _

/-- A slice of the call's own that holds the strings ss. -/
def OwnRow (w : World) (ss : List ByteArray) (e : Ending) (w' : World) : Prop :=
  ∃ v, e = .returned v ∧ w'.ownsRow w.heap.size 9 1 v ss.length (strVals ss) ∧ Below w.heap.size w w'

set_option maxHeartbeats 2000000 in
theorem specWithoutName_any (A : Option Addr) (c : Nat) (ss : List ByteArray) (s : ByteArray) (w : World) (hA : StrsAt w w.heap.size A ss) (hn : ss.length ≤ 1048576) :
    Calls Try.prog 27 #[.slice A ss.length c, .string s] w (OwnRow w (withoutB ss s)) := by
  obtain ⟨i0, hi, hz0, hz1, hz2⟩ := info_parts infoString
  go_enter Try.func27, Try.ntmps27
  go_wp2
  go_loopw [5, 6] (fun v i wr => ∃ k : Nat, k ≤ ss.length ∧ i = .int .i64 k ∧ wr.ownsRow w.heap.size 9 1 v (withoutB (ss.take k) s).length (strVals (withoutB (ss.take k) s)) ∧ Below w.heap.size w wr) (fun _ i _ => ss.length - (intOf i).toNat)
  case atStart => exact ⟨0, Nat.zero_le _, rfl, World.ownsRow_lit w #[] 0 (Nat.le_refl _) (Nat.zero_le _) rfl, (Below.refl _ _).alloc (Nat.le_refl _) _⟩
  case round =>
    obtain ⟨k, hk, rfl, hown, hb⟩ := hrel
    by_cases hlt : k < ss.length
    · have hltI : (k : Int) < (ss.length : Int) := by omega
      obtain ⟨b, off, rfl, hbl, hcell⟩ := (hA.below hb) k hlt
      have hs1 := Lib.hid (withoutB_succ ss s k hlt)
      have hl := withoutB_len (ss.take k) s
      have hl2 : (ss.take k).length ≤ k := List.length_take_le _ _
      by_cases he : ss[k].data.toList = s.data.toList
      · have hq : (ss[k].toList == s.toList) = true := by rw [beq_iff_eq, ByteArray.toList_eq, ByteArray.toList_eq]; exact he
        have HE := Lib.hid he
        clear he
        go_wp2
        go_roundw
        case rel => exact ⟨k + 1, by omega, by go_num, by rw [hs1.out, if_pos HE.out, List.append_nil]; exact hown, hb⟩
        case measure => simp [intOf]; omega
      · have hq : (ss[k].toList == s.toList) = false := by rw [beq_eq_false_iff_ne, ByteArray.toList_eq, ByteArray.toList_eq]; exact he
        have HE := Lib.hid he
        clear he
        go_wp2_with (at_builtin; refine wpList_append_cells _ rfl (.tmp 20) (.tmp 25) _ rfl w.heap.size 9 i0 (.string ⟨#[]⟩) 1 16 Try.underlying24 hi hz0 hz1 hz2 rfl (by decide) _ _ _ rfl (hown.alloc _) (some ⟨wr.heap.size, 0, none⟩) 1 1 [.string ss[k]] rfl rfl (.inr ⟨_, rfl, cellNew wr 9 _⟩) (by intro u hu; simp at hu; subst hu; rfl) (by unfold maxLen; omega) (by omega) (by have := hb.size; simp; omega) ?_; intro v1 w1 hown1 hg1; have hb1 := (hb.alloc hb.size _).grown hg1 (by have := hb.size; simp; omega) (fun q hq => (hown.lt q hq).1))
        go_roundw
        case rel => exact ⟨k + 1, by omega, by go_num, own_strs hown1 (by rw [hs1.out, if_neg HE.out]; simp [strVals]), hb1⟩
        case measure => simp [intOf]; omega
    · have hltI : ¬ (k : Int) < (ss.length : Int) := by omega
      have hke : k = ss.length := by omega
      rw [hke, List.take_length] at hown
      clear hke
      go_wp2
      go_ret
      exact ⟨_, rfl, hown, hb⟩

end Go.Proofs.Ytghipacdhpglcaa
