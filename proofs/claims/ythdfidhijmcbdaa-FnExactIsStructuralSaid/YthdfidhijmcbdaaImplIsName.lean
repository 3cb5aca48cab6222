/- The contract of the kit's shelf at this program: Clone. -/
import Derived.Shelf.LaysM
import Derived.Shelf.Strconv.Clone
import Derived.Test.YthdfidhijmcbdaaProg
import Derived.Test.YthdfidhijmcbdaaSpecNames
import Derived.Test.YthdfidhijmcbdaaSz
import Derived.Laws.RangeAny

namespace Go.Proofs
open Go.Shelf
end Go.Proofs

namespace Go.Proofs.Ythdfidhijmcbdaa
open Go.RowKit

end Go.Proofs.Ythdfidhijmcbdaa

namespace Go.Proofs.Ythdfidhijmcbdaa
open Go.RowKit

theorem letter_yes (r : Int) (w : World) (h1 : 97 ≤ r) (h2 : r ≤ 122) :
    Calls Try.prog 45 #[.int .i32 r] w fun e w' => e = .returned (.bool true) ∧ w = w' := by
  go_enter Try.func45, Try.ntmps45
  go_wp2
  go_ret
  exact ⟨rfl, rfl⟩
theorem letter_no (r : Int) (w : World) (h : r < 97 ∨ 122 < r) :
    Calls Try.prog 45 #[.int .i32 r] w fun e w' => e = .returned (.bool false) ∧ w = w' := by
  by_cases h1 : 97 ≤ r
  · have h2 : ¬ r ≤ 122 := by omega
    clear h
    go_enter Try.func45, Try.ntmps45
    go_wp2
    go_ret
    exact ⟨rfl, rfl⟩
  · clear h
    go_enter Try.func45, Try.ntmps45
    go_wp2
    go_ret
    exact ⟨rfl, rfl⟩
theorem digit_yes (r : Int) (w : World) (h1 : 48 ≤ r) (h2 : r ≤ 57) :
    Calls Try.prog 46 #[.int .i32 r] w fun e w' => e = .returned (.bool true) ∧ w = w' := by
  go_enter Try.func46, Try.ntmps46
  go_wp2
  go_ret
  exact ⟨rfl, rfl⟩
theorem digit_no (r : Int) (w : World) (h : r < 48 ∨ 57 < r) :
    Calls Try.prog 46 #[.int .i32 r] w fun e w' => e = .returned (.bool false) ∧ w = w' := by
  by_cases h1 : 48 ≤ r
  · have h2 : ¬ r ≤ 57 := by omega
    clear h
    go_enter Try.func46, Try.ntmps46
    go_wp2
    go_ret
    exact ⟨rfl, rfl⟩
  · clear h
    go_enter Try.func46, Try.ntmps46
    go_wp2
    go_ret
    exact ⟨rfl, rfl⟩

theorem decode_cases (s : ByteArray) (k : Nat) (h : k < s.size) : ∃ r wd : Nat, Utf8.decode s k = (r, wd) ∧ 1 ≤ wd ∧ (r < 128 → wd = 1 ∧ r = s[k].toNat) ∧ (128 ≤ r → 128 ≤ s[k].toNat) ∧ r ≤ 2147483647 := by
  have hle := decode_le s k
  by_cases ha : s[k].toNat < 128
  · have e := decode_ascii s k h ha
    refine ⟨_, _, e, Nat.le_refl _, fun _ => ⟨rfl, rfl⟩, fun h => by omega, by omega⟩
  · have h2 := decode_high s k h (by omega)
    rcases hd : Utf8.decode s k with ⟨r, wd⟩
    rw [hd] at h2 hle
    obtain ⟨h3, h4⟩ := h2
    exact ⟨_, _, rfl, h4, fun h => by simp at h3; omega, fun _ => by omega, hle⟩

theorem nameAt_no (k : Nat) (c : UInt8) (h1 : ¬ (97 ≤ c.toNat ∧ c.toNat ≤ 122)) (h2 : ¬ 0 < k ∨ ¬ (48 ≤ c.toNat ∧ c.toNat ≤ 57)) : nameAt k c = false := by
  unfold nameAt
  rw [Bool.or_eq_false_iff]
  constructor
  · rw [Bool.and_eq_false_iff]
    simp
    omega
  · rw [Bool.and_eq_false_iff, Bool.and_eq_false_iff]
    simp
    omega
theorem isNameB_long (s : ByteArray) (h : 4 < s.size) : isNameB s = false := by
  unfold isNameB
  simp [show ¬ s.size ≤ 4 by omega]

/-- A bool is handed back; what was there stands. -/
def BoolBelow (b : Bool) (w : World) (e : Ending) (w' : World) : Prop := e = .returned (.bool b) ∧ Below w.heap.size w w'

theorem iter_below (w : World) (s : ByteArray) (k : Nat) : Below w.heap.size w (w.iter s k) := (Below.refl _ _).alloc (Nat.le_refl _) _

set_option maxHeartbeats 1000000 in
theorem implIsName_any (s : ByteArray) (w : World) (hs : s.size ≤ maxLen) :
    Calls Try.prog 44 #[.string s] w (BoolBelow (isNameB s) w) := by
  unfold maxLen at hs
  go_enter Try.func44, Try.ntmps44
  go_wp2
  go_loopw [2] (fun r2 w' => ∃ k : Nat, r2 = .bool false ∧ w' = w.iter s k ∧ k ≤ s.size ∧ k ≤ 4 ∧ ∀ j, j < k → nameAt j (s.data.getD j 0) = true) (fun _ w' => s.size - w'.iterPos w.heap.size)
  case atStart => exact ⟨0, rfl, rfl, Nat.zero_le _, Nat.zero_le _, fun j h => absurd h (by omega)⟩
  case round =>
    obtain ⟨k, rfl, rfl, hk, hk4, hall⟩ := hrel
    have HA := Lib.hid hall
    clear hall
    by_cases hp : k < s.size
    · obtain ⟨r, wd, hd, hwd, hlo, hhi, hr⟩ := decode_cases s k hp
      have hnx : ∀ ty, (Instr.next (.pointer (some ⟨w.heap.size, 0, none⟩)) true ty).run Try.prog (w.iter s k) = .ok (.tuple #[.bool true, .int .i64 k, .int .i32 r]) (w.iter s (k + wd)) := fun ty => by
        rw [run_next_any w s k ty hp, hd]
      have hget : s.data.getD k 0 = s[k] := by
        rw [Array.getD_eq_getD_getElem?, Array.getElem?_eq_getElem hp]; rfl
      have HG := Lib.hid hget
      have HD := Lib.hid hd
      clear hget hd
      by_cases h4 : 4 ≤ k
      · have i4 : (4 : Int) ≤ k := by omega
        have hno := Lib.hid (isNameB_long s (by omega))
        go_wp2
        go_ret
        exact ⟨by rw [hno.out]; rfl, iter_below _ _ _⟩
      · have i4 : ¬ (4 : Int) ≤ k := by omega
        by_cases hlet : 97 ≤ r ∧ r ≤ 122
        · have hc := hlo (by omega)
          have hct := Lib.hid hc
          have i1 : 97 ≤ (r : Int) := by omega
          have i2 : (r : Int) ≤ 122 := by omega
          have hR := Lib.hid hlet
          clear hlet hc hlo hhi
          go_wp2_with fail
          refine (letter_yes r _ i1 i2).mono ?_
          rintro e w' ⟨rfl, rfl⟩
          go_wp2
          go_roundw
          case rel =>
            refine ⟨k + wd, rfl, rfl, by have := hct.out; omega, by have := hct.out; omega, fun j hj => ?_⟩
            have h1 := hct.out
            by_cases e : j = k
            · subst e
              rw [HG.out]
              have := hR.out
              simp [nameAt, show 97 ≤ s[j].toNat by omega, show s[j].toNat ≤ 122 by omega]
            · exact HA.out j (by omega)
          case measure => simp; omega
        · have i1 : (r : Int) < 97 ∨ 122 < (r : Int) := by omega
          by_cases hk0 : k = 0
          · have hno := Lib.hid (isNameB_no s k hp (by
              rw [HG.out]
              by_cases h128 : r < 128
              · have := hlo h128
                exact nameAt_no _ _ (by omega) (.inl (by omega))
              · have := hhi (by omega)
                exact nameAt_no _ _ (by omega) (.inl (by omega))))
            have i0 : ((k : Int) == 0) = true := by rw [beq_iff_eq]; omega
            have hR := Lib.hid hlet
            have hk0' := Lib.hid hk0
            clear hlet hlo hhi hk0
            go_wp2_with fail
            refine (letter_no r _ i1).mono ?_
            rintro e w' ⟨rfl, rfl⟩
            clear i1
            go_wp2
            go_ret
            exact ⟨by rw [hno.out]; rfl, iter_below _ _ _⟩
          · have i0 : ((k : Int) == 0) = false := by rw [beq_eq_false_iff_ne]; omega
            by_cases hdig : 48 ≤ r ∧ r ≤ 57
            · have hc := hlo (by omega)
              have hct := Lib.hid hc
              have i3 : 48 ≤ (r : Int) := by omega
              have i5 : (r : Int) ≤ 57 := by omega
              have hR := Lib.hid hdig
              clear hlet hc hlo hhi hdig
              go_wp2_with fail
              refine (letter_no r _ i1).mono ?_
              rintro e w' ⟨rfl, rfl⟩
              clear i1
              go_wp2_with fail
              refine (digit_yes r _ i3 i5).mono ?_
              rintro e w' ⟨rfl, rfl⟩
              go_wp2
              go_roundw
              case rel =>
                refine ⟨k + wd, rfl, rfl, by have := hct.out; omega, by have := hct.out; omega, fun j hj => ?_⟩
                have h1 := hct.out
                by_cases e : j = k
                · subst e
                  rw [HG.out]
                  have := hR.out
                  simp [nameAt, show 48 ≤ s[j].toNat by omega, show s[j].toNat ≤ 57 by omega, show 0 < j by omega]
                · exact HA.out j (by omega)
              case measure => simp; omega
            · have i3 : (r : Int) < 48 ∨ 57 < (r : Int) := by omega
              have hno := Lib.hid (isNameB_no s k hp (by
                rw [HG.out]
                by_cases h128 : r < 128
                · have := hlo h128
                  exact nameAt_no _ _ (by omega) (.inr (by omega))
                · have := hhi (by omega)
                  exact nameAt_no _ _ (by omega) (.inr (by omega))))
              clear hlet hlo hhi hdig
              go_wp2_with fail
              refine (letter_no r _ i1).mono ?_
              rintro e w' ⟨rfl, rfl⟩
              clear i1
              go_wp2_with fail
              refine (digit_no r _ i3).mono ?_
              rintro e w' ⟨rfl, rfl⟩
              clear i3
              go_wp2
              go_ret
              exact ⟨by rw [hno.out]; rfl, iter_below _ _ _⟩
    · have hnx : ∀ ty, (Instr.next (.pointer (some ⟨w.heap.size, 0, none⟩)) true ty).run Try.prog (w.iter s k) = _ := fun ty => run_next_end w s k ty hp
      have hB := Lib.hid (isNameB_all s (fun j hj => HA.out j (by omega)))
      by_cases h0 : s.size = 0
      · have he : s.toList.isEmpty = true := by rw [ByteArray.toList_eq, List.isEmpty_iff, ← List.length_eq_zero_iff, Array.length_toList]; exact h0
        have H0 := Lib.hid h0
        clear h0
        go_wp2
        go_ret
        exact ⟨by rw [hB.out, H0.out]; rfl, iter_below _ _ _⟩
      · have he : s.toList.isEmpty = false := by
          rw [ByteArray.toList_eq, Bool.eq_false_iff, Ne, List.isEmpty_iff, ← List.length_eq_zero_iff, Array.length_toList]; exact h0
        have H0 := Lib.hid h0
        clear h0
        go_wp2
        go_ret
        refine ⟨?_, iter_below _ _ _⟩
        have := H0.out
        rw [hB.out]
        simp [show 1 ≤ s.size by omega, show s.size ≤ 4 by omega]

end Go.Proofs.Ythdfidhijmcbdaa
