/- spec.l1Read. -/
import Derived.Test.YthplgklegoeelaaDoorFmt
import Derived.Test.YthplgklegoeelaaDoorReadLaws
import Derived.WalkKit
import Derived.BigGuard
import Derived.Laws.Strings
namespace Go.Proofs.YthplgklegoeelaaDoor
open Go.RowKit

/-- What l1Read answers: the number that the string spells, or 0 and false where none of at most k + 1 digits does. -/
def ReadPost (l : List UInt8) (k : Nat) (w : World) (e : Ending) (w' : World) : Prop :=
  ((∃ n : Int, e = .returned (.tuple #[.int .i64 n, .bool true]) ∧ l = Lib.itoa n ∧ n.natAbs < 10 ^ (k + 1)) ∨
    (e = .returned (.tuple #[.int .i64 0, .bool false]) ∧ ∀ n : Int, n.natAbs < 10 ^ (k + 1) → l ≠ Lib.itoa n)) ∧ Below w.heap.size w w'

theorem extract_tail (s : ByteArray) : (s.extract 1 s.size).data.toList = s.data.toList.tail := by
  rw [ByteArray.data_extract, Array.toList_extract]
  cases h : s.data.toList with
  | nil => simp
  | cons c r =>
    have hs : s.size = r.length + 1 := by
      have : s.data.toList.length = s.size := by simp
      rw [← this, h]
      simp
    rw [hs]
    simp [List.extract]

set_option maxHeartbeats 1000000 in
theorem read_neg (s : ByteArray) (k : Nat) (w : World) (hs : s.size ≤ 1048576) (hk : k ≤ 11) (h0 : 0 < s.size) (h45 : s[0] = 45) :
    Calls Tryd.prog 33 #[.string s, .int .i64 (k + 1)] w (ReadPost s.data.toList k w) := by
  have hp : (0 : Int) < s.size := by omega
  have h45' : ((s[0].toNat : Int) == 45) = true := by rw [h45]; decide
  have H45 := Lib.hid h45
  clear h45
  have hl : s.data.toList.length = s.size := by simp
  have hhead : s.data.toList.head? = some 45 := by
    rw [List.head?_eq_getElem?, List.getElem?_eq_getElem (by rw [hl]; exact h0)]
    exact congrArg some H45.out
  have hhd := Lib.hid hhead
  have HB := Lib.hid (show behind s.data.toList = s.data.toList.tail by unfold behind; rw [if_pos hhead])
  have HL := Lib.hid hl
  clear hhead hl
  by_cases hA : s.size - 1 < 1
  · have hA' : ((s.size - 1 : Nat) : Int) < 1 := by omega
    go_enter Tryd.func33, Tryd.ntmps33
    go_wp2
    go_ret2
    refine ⟨.inr ⟨rfl, no_short (k := k) (.inl ?_)⟩, Below.refl _ _⟩
    rw [HB.out, List.length_tail, HL.out]
    omega
  · by_cases hB : k + 1 < s.size - 1
    · have hB' : (k : Int) + 1 < ((s.size - 1 : Nat) : Int) := by omega
      have hA' : ¬ ((s.size - 1 : Nat) : Int) < 1 := by omega
      go_enter Tryd.func33, Tryd.ntmps33
      go_wp2
      go_ret2
      refine ⟨.inr ⟨rfl, no_short (k := k) (.inr ?_)⟩, Below.refl _ _⟩
      rw [HB.out, List.length_tail, HL.out]
      omega
    · have hB' : ¬ (k : Int) + 1 < ((s.size - 1 : Nat) : Int) := by omega
      have hA' : ¬ ((s.size - 1 : Nat) : Int) < 1 := by omega
      obtain ⟨t, ht⟩ : ∃ t, t = s.extract 1 s.size := ⟨_, rfl⟩
      have htl := Lib.hid (show t.data.toList = behind s.data.toList by rw [HB.out, ht, extract_tail])
      have htl2 := Lib.hid (show t.data.toList.length = t.size by simp)
      have hts : t.size = s.size - 1 := by rw [← htl2.out, htl.out, HB.out, List.length_tail, HL.out]
      have htb : t.size ≤ k + 1 := by omega
      have HT := Lib.hid ht
      have HS := Lib.hid hts
      clear hts
      have htz : 0 < t.size := by have := HS.out; omega
      clear ht
      go_enter Tryd.func33, Tryd.ntmps33
      go_wp2
      rw [← HT.out]
      clear hA' hB' hA hB h45' hp
      clear HB
      go_loop [8, 9] (fun n i => ∃ j : Nat, j ≤ t.size ∧ i = .int .i64 j ∧ n = .int .i64 (valD (t.data.toList.take j)) ∧ ∀ i, (h : i < t.data.toList.length) → i < j → IsDig t.data.toList[i]) (fun _ i => t.size - (intOf i).toNat)
      case atStart => exact ⟨0, Nat.zero_le _, rfl, rfl, fun i h hi => absurd hi (by omega)⟩
      case round =>
        obtain ⟨j, hj, rfl, rfl, hdig⟩ := hrel
        have hD := Lib.hid hdig
        have hbd := valD_lt t.data.toList j (by rw [htl2.out]; exact hj) hdig
        have hbd2 : (10 : Nat) ^ j ≤ 10 ^ 12 := Nat.pow_le_pow_right (by omega) (by omega)
        clear hdig
        have hv : valD (t.data.toList.take j) < 1000000000000 := by omega
        have hpow := Lib.hid hbd
        clear hbd hbd2
        by_cases hlt : j < t.size
        · have hltI : (j : Int) < (t.size : Int) := by omega
          have hget : t.data.toList[j]'(by rw [htl2.out]; exact hlt) = t[j] := by rw [Array.getElem_toList]; rfl
          have hstep := Lib.hid (valD_take t.data.toList j (by rw [htl2.out]; exact hlt))
          have hG := Lib.hid hget
          clear hget
          by_cases h48 : (t[j].toNat : Int) < 48
          · go_wp2
            go_ret2
            refine ⟨.inr ⟨rfl, fun n _ => no_digit (c := t[j]) (by rw [← htl.out, ← hG.out]; exact List.getElem_mem _) (by unfold IsDig; omega) n⟩, Below.refl _ _⟩
          · by_cases h57 : (57 : Int) < t[j].toNat
            · go_wp2
              go_ret2
              refine ⟨.inr ⟨rfl, fun n _ => no_digit (c := t[j]) (by rw [← htl.out, ← hG.out]; exact List.getElem_mem _) (by unfold IsDig; omega) n⟩, Below.refl _ _⟩
            · go_wp2
              go_round
              case rel =>
                refine ⟨j + 1, by omega, by go_num, ?_, fun i h hi => ?_⟩
                · rw [hstep.out, hG.out]
                  congr 1
                  omega
                · by_cases e : i = j
                  · subst e
                    rw [hG.out]
                    unfold IsDig
                    omega
                  · exact hD.out i h (by omega)
              case measure => simp [intOf]; omega
        · have hje : j = t.size := by omega
          have hval : valD (t.data.toList.take j) = valD (behind s.data.toList) := by
            rw [← htl.out, hje, ← htl2.out, List.take_length]
          have hsg : -((valD (t.data.toList.take j) : Nat) : Int) = sign s.data.toList (valD (behind s.data.toList)) := by
            rw [← hval]
            unfold sign
            rw [if_pos hhd.out]
          have hlt12 : valD (t.data.toList.take j) < 10 ^ (k + 1) := Nat.lt_of_lt_of_le hpow.out (Nat.pow_le_pow_right (by omega) (by omega))
          have hL12 := Lib.hid hlt12
          have hS := Lib.hid hsg
          clear hval hsg hlt12 hpow
          generalize valD (t.data.toList.take j) = v at *
          have hv2 : (v : Int) < 1000000000000 := by omega
          have hfm := Lib.hid (specFormatInt_any (-(v : Int)) w (by omega) (by omega))
          go_wp2_with fail
          refine hfm.out.mono ?_
          rintro e w1 ⟨rfl, hb1⟩
          by_cases heq : s.data.toList = Lib.itoa (-(v : Int))
          · have hq : (Lib.itoa (-(v : Int)) == s.toList) = true := by rw [beq_iff_eq, ByteArray.toList_eq]; exact heq.symm
            have HQ := Lib.hid heq
            clear heq
            go_wp2
            go_ret2
            exact ⟨.inl ⟨_, rfl, HQ.out, by have := hL12.out; omega⟩, hb1⟩
          · have hq : (Lib.itoa (-(v : Int)) == s.toList) = false := by rw [beq_eq_false_iff_ne, ByteArray.toList_eq]; exact fun e => heq e.symm
            have HQ := Lib.hid heq
            clear heq
            go_wp2
            go_ret2
            refine ⟨.inr ⟨rfl, fun n _ hn => HQ.out ?_⟩, hb1⟩
            have := the_number n hn
            rw [← hS.out] at this
            rw [← this]
            exact hn

set_option maxHeartbeats 1000000 in
theorem read_pos (s : ByteArray) (k : Nat) (w : World) (hs : s.size ≤ 1048576) (hk : k ≤ 11) (h0 : 0 < s.size) (h45 : s[0] ≠ 45) :
    Calls Tryd.prog 33 #[.string s, .int .i64 (k + 1)] w (ReadPost s.data.toList k w) := by
  have hp : (0 : Int) < s.size := by omega
  have h45' : ((s[0].toNat : Int) == 45) = false := by
    rw [beq_eq_false_iff_ne]
    intro e
    exact h45 (UInt8.toNat_inj.1 (by rw [show (45 : UInt8).toNat = 45 from rfl]; omega))
  have hl : s.data.toList.length = s.size := by simp
  have hhead : ¬ s.data.toList.head? = some 45 := by
    rw [List.head?_eq_getElem?, List.getElem?_eq_getElem (by rw [hl]; exact h0)]
    intro e
    exact h45 (Option.some.inj e)
  have hhd := Lib.hid hhead
  have htl := Lib.hid (show s.data.toList = behind s.data.toList by unfold behind; rw [if_neg hhead])
  have htl2 := Lib.hid hl
  clear hhead hl h45
  by_cases hB : k + 1 < s.size
  · have hB' : (k : Int) + 1 < (s.size : Int) := by omega
    have hA' : ¬ (s.size : Int) < 1 := by omega
    go_enter Tryd.func33, Tryd.ntmps33
    go_wp2
    go_ret2
    refine ⟨.inr ⟨rfl, no_short (k := k) (.inr ?_)⟩, Below.refl _ _⟩
    rw [← htl.out, htl2.out]
    omega
  · have hB' : ¬ (k : Int) + 1 < (s.size : Int) := by omega
    have hA' : ¬ (s.size : Int) < 1 := by omega
    have htb : s.size ≤ k + 1 := by omega
    go_enter Tryd.func33, Tryd.ntmps33
    go_wp2
    clear hA' hB' hB h45'
    go_loop [8, 9] (fun n i => ∃ j : Nat, j ≤ s.size ∧ i = .int .i64 j ∧ n = .int .i64 (valD (s.data.toList.take j)) ∧ ∀ i, (h : i < s.data.toList.length) → i < j → IsDig s.data.toList[i]) (fun _ i => s.size - (intOf i).toNat)
    case atStart => exact ⟨0, Nat.zero_le _, rfl, rfl, fun i h hi => absurd hi (by omega)⟩
    case round =>
      obtain ⟨j, hj, rfl, rfl, hdig⟩ := hrel
      have hD := Lib.hid hdig
      have hbd := valD_lt s.data.toList j (by rw [htl2.out]; exact hj) hdig
      have hbd2 : (10 : Nat) ^ j ≤ 10 ^ 12 := Nat.pow_le_pow_right (by omega) (by omega)
      clear hdig
      have hv : valD (s.data.toList.take j) < 1000000000000 := by omega
      have hpow := Lib.hid hbd
      clear hbd hbd2
      by_cases hlt : j < s.size
      · have hltI : (j : Int) < (s.size : Int) := by omega
        have hget : s.data.toList[j]'(by rw [htl2.out]; exact hlt) = s[j] := by rw [Array.getElem_toList]; rfl
        have hstep := Lib.hid (valD_take s.data.toList j (by rw [htl2.out]; exact hlt))
        have hG := Lib.hid hget
        clear hget
        by_cases h48 : (s[j].toNat : Int) < 48
        · go_wp2
          go_ret2
          refine ⟨.inr ⟨rfl, fun n _ => no_digit (c := s[j]) (by rw [← htl.out, ← hG.out]; exact List.getElem_mem _) (by unfold IsDig; omega) n⟩, Below.refl _ _⟩
        · by_cases h57 : (57 : Int) < s[j].toNat
          · go_wp2
            go_ret2
            refine ⟨.inr ⟨rfl, fun n _ => no_digit (c := s[j]) (by rw [← htl.out, ← hG.out]; exact List.getElem_mem _) (by unfold IsDig; omega) n⟩, Below.refl _ _⟩
          · go_wp2
            go_round
            case rel =>
              refine ⟨j + 1, by omega, by go_num, ?_, fun i h hi => ?_⟩
              · rw [hstep.out, hG.out]
                congr 1
                omega
              · by_cases e : i = j
                · subst e
                  rw [hG.out]
                  unfold IsDig
                  omega
                · exact hD.out i h (by omega)
            case measure => simp [intOf]; omega
      · have hje : j = s.size := by omega
        have hval : valD (s.data.toList.take j) = valD (behind s.data.toList) := by
          rw [← htl.out, hje, ← htl2.out, List.take_length]
        have hsg : ((valD (s.data.toList.take j) : Nat) : Int) = sign s.data.toList (valD (behind s.data.toList)) := by
          rw [← hval]
          unfold sign
          rw [if_neg hhd.out]
        have hlt12 : valD (s.data.toList.take j) < 10 ^ (k + 1) := Nat.lt_of_lt_of_le hpow.out (Nat.pow_le_pow_right (by omega) (by omega))
        have hL12 := Lib.hid hlt12
        have hS := Lib.hid hsg
        clear hval hsg hlt12 hpow
        generalize valD (s.data.toList.take j) = v at *
        have hv2 : (v : Int) < 1000000000000 := by omega
        have hfm := Lib.hid (specFormatInt_any ((v : Int)) w (by omega) (by omega))
        go_wp2_with fail
        refine hfm.out.mono ?_
        rintro e w1 ⟨rfl, hb1⟩
        by_cases heq : s.data.toList = Lib.itoa ((v : Int))
        · have hq : (Lib.itoa ((v : Int)) == s.toList) = true := by rw [beq_iff_eq, ByteArray.toList_eq]; exact heq.symm
          have HQ := Lib.hid heq
          clear heq
          go_wp2
          go_ret2
          exact ⟨.inl ⟨_, rfl, HQ.out, by have := hL12.out; omega⟩, hb1⟩
        · have hq : (Lib.itoa ((v : Int)) == s.toList) = false := by rw [beq_eq_false_iff_ne, ByteArray.toList_eq]; exact fun e => heq e.symm
          have HQ := Lib.hid heq
          clear heq
          go_wp2
          go_ret2
          refine ⟨.inr ⟨rfl, fun n _ hn => HQ.out ?_⟩, hb1⟩
          have := the_number n hn
          rw [← hS.out] at this
          rw [← this]
          exact hn

set_option maxHeartbeats 400000 in
theorem read_empty (s : ByteArray) (k : Nat) (w : World) (h0 : s.size = 0) :
    Calls Tryd.prog 33 #[.string s, .int .i64 (k + 1)] w (ReadPost s.data.toList k w) := by
  have hl : s.data.toList = [] := List.eq_nil_of_length_eq_zero (by simpa using h0)
  have e : s = ⟨#[]⟩ := by
    cases s
    simp at hl
    rw [hl]
  subst e
  go_enter Tryd.func33, Tryd.ntmps33
  go_wp2
  go_ret2
  exact ⟨.inr ⟨rfl, no_short (k := k) (.inl (by decide))⟩, Below.refl _ _⟩

theorem read_any (s : ByteArray) (k : Nat) (w : World) (hs : s.size ≤ 1048576) (hk : k ≤ 11) :
    Calls Tryd.prog 33 #[.string s, .int .i64 (k + 1)] w (ReadPost s.data.toList k w) := by
  by_cases h0 : s.size = 0
  · exact read_empty s k w h0
  · by_cases h45 : s[0]'(by omega) = 45
    · exact read_neg s k w hs hk (by omega) h45
    · exact read_pos s k w hs hk (by omega) h45

end Go.Proofs.YthplgklegoeelaaDoor
