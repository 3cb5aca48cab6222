/- spec.IsName. -/
import Derived.Test.YthdfidhijmcbdaaGreatDoorProg
import Derived.Test.YthdfidhijmcbdaaGreatDoorAppend
import Derived.BigGuard
import Derived.WalkLawsBesides

namespace Go.Proofs.YthdfidhijmcbdaaGreatDoor
open Go.RowKit

/-- May the byte c stand at place k of a name? -/
def nameAt (k : Nat) (c : UInt8) : Bool := (decide (97 ≤ c.toNat) && decide (c.toNat ≤ 122)) || (decide (0 < k) && decide (48 ≤ c.toNat) && decide (c.toNat ≤ 57))
/-- Is it a name? -/
def isNameB (s : ByteArray) : Bool := (List.range s.size).all (fun k => nameAt k (s.data.getD k 0)) && decide (1 ≤ s.size) && decide (s.size ≤ 4)

theorem isNameB_no (s : ByteArray) (k : Nat) (h : k < s.size) (hn : nameAt k (s.data.getD k 0) = false) : isNameB s = false := by
  unfold isNameB
  have : (List.range s.size).all (fun k => nameAt k (s.data.getD k 0)) = false := by
    rw [List.all_eq_false]
    exact ⟨k, List.mem_range.2 h, by rw [hn]; simp⟩
  rw [this]
  rfl
theorem isNameB_all (s : ByteArray) (h : ∀ k, k < s.size → nameAt k (s.data.getD k 0) = true) : isNameB s = (decide (1 ≤ s.size) && decide (s.size ≤ 4)) := by
  unfold isNameB
  have : (List.range s.size).all (fun k => nameAt k (s.data.getD k 0)) = true := by
    rw [List.all_eq_true]
    exact fun k hk => h k (List.mem_range.1 hk)
  rw [this]
  rfl

set_option maxHeartbeats 1000000 in
theorem specIsName_any (s : ByteArray) (w : World) (hs : s.size ≤ maxLen) :
    Calls Tryz.prog 83 #[.string s] w fun e w' => e = .returned (.bool (isNameB s)) ∧ w = w' := by
  unfold maxLen at hs
  go_enter Tryz.func83, Tryz.ntmps83
  go_wp2
  go_loop [3] (fun i => ∃ k : Nat, k ≤ s.size ∧ i = .int .i64 k ∧ ∀ j, j < k → nameAt j (s.data.getD j 0) = true) (fun i => s.size - (intOf i).toNat)
  case atStart => exact ⟨0, Nat.zero_le _, rfl, fun j h => absurd h (by omega)⟩
  case round =>
    obtain ⟨k, hk, rfl, hall⟩ := hrel
    have HA := Lib.hid hall
    clear hall
    by_cases hlt : k < s.size
    · have hltI : (k : Int) < (s.size : Int) := by omega
      have hget := Lib.hid (show s.data.getD k 0 = s[k] by
        rw [Array.getD_eq_getD_getElem?, Array.getElem?_eq_getElem hlt]; rfl)
      by_cases h97 : 97 ≤ s[k].toNat
      · by_cases h122 : s[k].toNat ≤ 122
        · have i1 : (97 : Int) ≤ s[k].toNat := by omega
          have i2 : (s[k].toNat : Int) ≤ 122 := by omega
          go_wp2
          go_round
          case rel =>
            refine ⟨k + 1, by omega, by go_num, fun j hj => ?_⟩
            by_cases e : j = k
            · subst e
              rw [hget.out]
              simp [nameAt, h97, h122]
            · exact HA.out j (by omega)
          case measure => simp [intOf]; omega
        · have i1 : (97 : Int) ≤ s[k].toNat := by omega
          have i2 : ¬ (s[k].toNat : Int) ≤ 122 := by omega
          have i3 : ¬ (s[k].toNat : Int) < 48 := by omega
          have i4 : (57 : Int) < s[k].toNat := by omega
          have hno := Lib.hid (isNameB_no s k hlt (by rw [hget.out]; simp [nameAt, h122, show ¬ s[k].toNat ≤ 57 by omega]))
          go_wp2
          all_goals
            go_ret
            refine ⟨?_, rfl⟩
            rw [hno.out]
            rfl
      · by_cases hk0 : 0 < k
        · by_cases h48 : s[k].toNat < 48
          · have i1 : ¬ (97 : Int) ≤ s[k].toNat := by omega
            have i0 : ((k : Int) == 0) = false := by rw [beq_eq_false_iff_ne]; omega
            have i3 : (s[k].toNat : Int) < 48 := by omega
            have hno := Lib.hid (isNameB_no s k hlt (by rw [hget.out]; simp [nameAt, h97, show ¬ 48 ≤ s[k].toNat by omega]))
            go_wp2
            all_goals
              go_ret
              refine ⟨?_, rfl⟩
              rw [hno.out]
              rfl
          · by_cases h57 : s[k].toNat ≤ 57
            · have i1 : ¬ (97 : Int) ≤ s[k].toNat := by omega
              have i0 : ((k : Int) == 0) = false := by rw [beq_eq_false_iff_ne]; omega
              have i3 : ¬ (s[k].toNat : Int) < 48 := by omega
              have i4 : ¬ (57 : Int) < s[k].toNat := by omega
              go_wp2
              go_round
              case rel =>
                refine ⟨k + 1, by omega, by go_num, fun j hj => ?_⟩
                by_cases e : j = k
                · subst e
                  rw [hget.out]
                  simp [nameAt, hk0, h57, show 48 ≤ s[j].toNat by omega]
                · exact HA.out j (by omega)
              case measure => simp [intOf]; omega
            · have i1 : ¬ (97 : Int) ≤ s[k].toNat := by omega
              have i0 : ((k : Int) == 0) = false := by rw [beq_eq_false_iff_ne]; omega
              have i3 : ¬ (s[k].toNat : Int) < 48 := by omega
              have i4 : (57 : Int) < s[k].toNat := by omega
              have hno := Lib.hid (isNameB_no s k hlt (by rw [hget.out]; simp [nameAt, h97, h57]))
              go_wp2
              all_goals
                go_ret
                refine ⟨?_, rfl⟩
                rw [hno.out]
                rfl
        · have i1 : ¬ (97 : Int) ≤ s[k].toNat := by omega
          have i0 : ((k : Int) == 0) = true := by rw [beq_iff_eq]; omega
          have hno := Lib.hid (isNameB_no s k hlt (by rw [hget.out]; simp [nameAt, h97, hk0]))
          go_wp2
          all_goals
            go_ret
            refine ⟨?_, rfl⟩
            rw [hno.out]
            rfl
    · have hltI : ¬ (k : Int) < (s.size : Int) := by omega
      have hke : k = s.size := by omega
      have hB := Lib.hid (isNameB_all s (fun j hj => HA.out j (by omega)))
      clear hke
      by_cases h1 : 1 ≤ s.size
      · by_cases h4 : s.size ≤ 4
        · have i1 : (1 : Int) ≤ s.size := by omega
          have i4 : (s.size : Int) ≤ 4 := by omega
          go_wp2
          go_ret
          refine ⟨?_, rfl⟩
          rw [hB.out]
          simp [h1, h4]
        · have i1 : (1 : Int) ≤ s.size := by omega
          have i4 : ¬ (s.size : Int) ≤ 4 := by omega
          go_wp2
          go_ret
          refine ⟨?_, rfl⟩
          rw [hB.out]
          simp [h4]
      · have i1 : ¬ (1 : Int) ≤ s.size := by omega
        go_wp2
        go_ret
        refine ⟨?_, rfl⟩
        rw [hB.out]
        simp [h1]

end Go.Proofs.YthdfidhijmcbdaaGreatDoor

namespace Go.Proofs.YthdfidhijmcbdaaGreatDoor
open Go.RowKit

/-- The first place of s. -/
def idxOf (ss : List ByteArray) (s : ByteArray) : Int :=
  match (List.range ss.length).find? (fun k => (ss.getD k ⟨#[]⟩).data.toList == s.data.toList) with
  | some k => (k : Int)
  | none => -1
theorem idxOf_at (ss : List ByteArray) (s : ByteArray) (k : Nat) (h : k < ss.length) (he : ss[k].data.toList = s.data.toList) (hn : ∀ j, (hj : j < ss.length) → j < k → ss[j].data.toList ≠ s.data.toList) : idxOf ss s = k := by
  unfold idxOf
  have : (List.range ss.length).find? (fun k => (ss.getD k ⟨#[]⟩).data.toList == s.data.toList) = some k := by
    rw [List.find?_range_eq_some]
    refine ⟨?_, List.mem_range.2 h, fun j hj => ?_⟩
    · simp [h, he]
    · have hl : j < ss.length := by omega
      simp [hl]
      exact fun e => hn j hl hj (by rw [e])
  rw [this]
theorem idxOf_none (ss : List ByteArray) (s : ByteArray) (hn : ∀ j, (hj : j < ss.length) → ss[j].data.toList ≠ s.data.toList) : idxOf ss s = -1 := by
  unfold idxOf
  have : (List.range ss.length).find? (fun k => (ss.getD k ⟨#[]⟩).data.toList == s.data.toList) = none := by
    rw [List.find?_eq_none]
    intro j hj
    have hl := List.mem_range.1 hj
    simp [hl]
    exact fun e => hn j hl (by rw [e])
  rw [this]

set_option maxHeartbeats 1000000 in
theorem specIndexOf_any (A : Option Addr) (c B : Nat) (ss : List ByteArray) (s : ByteArray) (w : World) (hA : StrsAt w B A ss) (hn : ss.length ≤ maxLen) :
    Calls Tryz.prog 134 #[.slice A ss.length c, .string s] w fun e w' => e = .returned (.int .i64 (idxOf ss s)) ∧ w = w' := by
  unfold maxLen at hn
  go_enter Tryz.func134, Tryz.ntmps134
  go_wp2
  go_loop [5] (fun i => ∃ k : Nat, k ≤ ss.length ∧ i = .int .i64 k ∧ ∀ j, (hj : j < ss.length) → j < k → ss[j].data.toList ≠ s.data.toList) (fun i => ss.length - (intOf i).toNat)
  case atStart => exact ⟨0, Nat.zero_le _, rfl, fun j _ h => absurd h (by omega)⟩
  case round =>
    obtain ⟨k, hk, rfl, hall⟩ := hrel
    have HA := Lib.hid hall
    clear hall
    by_cases hlt : k < ss.length
    · have hltI : (k : Int) < (ss.length : Int) := by omega
      obtain ⟨b, off, rfl, _, hcell⟩ := hA k hlt
      by_cases he : ss[k].data.toList = s.data.toList
      · have hd := Lib.hid (idxOf_at ss s k hlt he HA.out)
        have hq : (ss[k].toList == s.toList) = true := by rw [beq_iff_eq, ByteArray.toList_eq, ByteArray.toList_eq]; exact he
        clear he
        go_wp2
        go_ret
        exact ⟨by rw [hd.out]; rfl, rfl⟩
      · have hq : (ss[k].toList == s.toList) = false := by rw [beq_eq_false_iff_ne, ByteArray.toList_eq, ByteArray.toList_eq]; exact he
        have HE := Lib.hid he
        clear he
        go_wp2
        go_round
        case rel =>
          refine ⟨k + 1, by omega, by go_num, fun j hj h => ?_⟩
          by_cases e : j = k
          · subst e
            exact HE.out
          · exact HA.out j hj (by omega)
        case measure => simp [intOf]; omega
    · have hltI : ¬ (k : Int) < (ss.length : Int) := by omega
      have hd := Lib.hid (idxOf_none ss s (fun j hj => HA.out j hj (by omega)))
      go_wp2
      go_ret
      exact ⟨by rw [hd.out]; rfl, rfl⟩

/-- s before t, byte by byte. -/
def lessB (s t : ByteArray) : Bool := Op.bytesLess s.data.toList t.data.toList
/-- Each before the next. -/
def ascB (ss : List ByteArray) : Bool := (List.range (ss.length - 1)).all fun k => lessB (ss.getD k ⟨#[]⟩) (ss.getD (k + 1) ⟨#[]⟩)
theorem ascB_no (ss : List ByteArray) (k : Nat) (h1 : 1 ≤ k) (h : k < ss.length) (hn : lessB (ss[k - 1]'(by omega)) ss[k] = false) : ascB ss = false := by
  unfold ascB
  rw [List.all_eq_false]
  refine ⟨k - 1, List.mem_range.2 (by omega), ?_⟩
  have e : k - 1 + 1 = k := by omega
  rw [e]
  simp [h, show k - 1 < ss.length by omega, hn]
theorem ascB_yes (ss : List ByteArray) (h : ∀ k, (hk : k < ss.length) → 1 ≤ k → lessB (ss[k - 1]'(by omega)) ss[k] = true) : ascB ss = true := by
  unfold ascB
  rw [List.all_eq_true]
  intro k hk
  have hl := List.mem_range.1 hk
  have := h (k + 1) (by omega) (by omega)
  simp only [Nat.add_sub_cancel] at this
  simp [show k < ss.length by omega, show k + 1 < ss.length by omega, this]

/-- A bool is handed back; the world only drew. -/
def BoolDrew (b : Bool) (w : World) (e : Ending) (w' : World) : Prop := e = .returned (.bool b) ∧ ∃ n, w' = w.drewN n

set_option maxHeartbeats 1000000 in
theorem specAreAscending_any (A : Option Addr) (c B : Nat) (ss : List ByteArray) (w : World) (hA : StrsAt w B A ss) (hn : ss.length < maxLen) :
    Calls Tryz.prog 121 #[.slice A ss.length c] w (BoolDrew (ascB ss) w) := by
  unfold maxLen at hn
  go_enter Tryz.func121, Tryz.ntmps121
  go_wp2
  go_loopw [3] (fun i wr => ∃ k : Nat, k ≤ ss.length + 1 ∧ 1 ≤ k ∧ i = .int .i64 k ∧ (∀ j, (hj : j < ss.length) → 1 ≤ j → j < k → lessB (ss[j - 1]'(by omega)) ss[j] = true) ∧ ∃ n, wr = w.drewN n) (fun i _ => ss.length - (intOf i).toNat)
  case atStart => exact ⟨1, by omega, by omega, rfl, fun j _ h1 h2 => absurd h2 (by omega), 0, rfl⟩
  case round =>
    obtain ⟨k, hk, hk1, rfl, hall, n, rfl⟩ := hrel
    have HA := Lib.hid hall
    clear hall
    by_cases hlt : k < ss.length
    · have hltI : (k : Int) < (ss.length : Int) := by omega
      obtain ⟨b, off, rfl, _, hcell⟩ := hA k hlt
      obtain ⟨b', off', e', _, hcell'⟩ := hA (k - 1) (by omega)
      cases e'
      cases hles : lessB (ss[k - 1]'(by omega)) ss[k]
      · have hd := Lib.hid (ascB_no ss k hk1 hlt hles)
        have hq : (!Op.bytesLess (ss[k - 1]'(by omega)).toList ss[k].toList) = true := by
          rw [ByteArray.toList_eq, ByteArray.toList_eq, show Op.bytesLess _ _ = false from hles]
          rfl
        clear hles
        go_wp2
        go_quiet (fail)
        go_wp2
        go_ret
        exact ⟨by rw [hd.out]; rfl, _, World.drewN_drewN _ _ _⟩
      · have hq : (!Op.bytesLess (ss[k - 1]'(by omega)).toList ss[k].toList) = false := by
          rw [ByteArray.toList_eq, ByteArray.toList_eq, show Op.bytesLess _ _ = true from hles]
          rfl
        have HE := Lib.hid hles
        clear hles
        go_wp2
        go_quiet (fail)
        go_wp2
        go_roundw
        case rel =>
          refine ⟨k + 1, by omega, by omega, by go_num, fun j hj h1 h2 => ?_, _, rfl⟩
          by_cases e : j = k
          · subst e
            exact HE.out
          · exact HA.out j hj h1 (by omega)
        case measure => simp [intOf]; omega
    · have hltI : ¬ (k : Int) < (ss.length : Int) := by omega
      have hd := Lib.hid (ascB_yes ss (fun j hj h1 => HA.out j hj h1 (by omega)))
      go_wp2
      go_ret
      exact ⟨by rw [hd.out]; rfl, n, rfl⟩

end Go.Proofs.YthdfidhijmcbdaaGreatDoor
