/- FnNumbers: for every code the law of formatting and parsing hands back true. No condition. (The card ties strconv's and math/bits' variables to the program's text; the tie is given.) -/
import Derived.Test.YthplgklegoeelaaDoorRows
import Derived.Test.YthplgklegoeelaaDoorLaw
import Derived.Test.YthplgklegoeelaaDoorCards
import Derived.Test.YthplgklegoeelaaDoorTie
import Derived.Test.YthplgklegoeelaaDoorLawLaid
import Derived.Test.YthplgklegoeelaaDoorOpenBytes
import Derived.Test.YthplgklegoeelaaDoorImplParse
import Derived.Test.YthplgklegoeelaaDoorSpecParseNumber
import Derived.Test.YthplgklegoeelaaDoorDraw1
import Derived.SevenTiedAt
namespace Go.Proofs.YthplgklegoeelaaDoor.lawFnNumbers
open Go.ChangeShapes Go.WideShapes Go.ChangeAt Go.RowKit
open Go.ChangeMaps (open_string shut_string)

theorem dec_len_ge (k : Nat) : ∀ u, 10 ^ k ≤ u → k + 1 ≤ (Lib.decDigits u).length := by
  induction k with
  | zero => intro u _; exact List.length_pos_iff.2 (dec_ne u)
  | succ k ih =>
    intro u h
    rw [Lib.decDigits]
    have h10 : 10 ≤ u := Nat.le_trans (by rw [Nat.pow_succ]; have : 0 < 10 ^ k := Nat.pow_pos (by omega); omega) h
    rw [dif_neg (by omega), List.length_append]
    have := ih (u / 10) (by rw [Nat.le_div_iff_mul_le (by omega)]; rw [Nat.pow_succ] at h; exact h)
    simp
    omega
theorem itoa_len (n : Int) : (Lib.itoa n).length = (Lib.decDigits n.natAbs).length + (if n < 0 then 1 else 0) := by
  unfold Lib.itoa
  by_cases h : n < 0
  · rw [if_pos h, if_pos h]; simp
  · rw [if_neg h, if_neg h, show n.toNat = n.natAbs by omega, Nat.add_zero]

/-- The first half of the law: what the walk asks of the length. -/
theorem len_yes (n : Int) (h0 : -999999999999 ≤ n) (h1 : n ≤ 999999999999) : (0 ≤ n → (Lib.itoa n).length ≤ 12) ∧ (n < 0 → (Lib.itoa n).length ≤ 13) := by
  have := dec_len 11 n.natAbs (by omega)
  rw [itoa_len]
  constructor
  · intro h; rw [if_neg (by omega)]; omega
  · intro h; rw [if_pos h]; omega
theorem len_no (n : Int) (h : ¬ (-999999999999 ≤ n ∧ n ≤ 999999999999)) : (0 ≤ n → 12 < (Lib.itoa n).length) ∧ (n < 0 → 13 < (Lib.itoa n).length) := by
  have := dec_len_ge 12 n.natAbs (by omega)
  rw [itoa_len]
  constructor
  · intro h; rw [if_neg (by omega)]; omega
  · intro h; rw [if_pos h]; omega

set_option maxHeartbeats 2000000 in
theorem walk (A : Option Addr) (n cap : Nat) (w : World) (hA : BytesAt w w.heap.size A n) (hn : n ≤ maxLen) (ht : Pow10At w) (hE : ErrsAt w) (hsz : 0 < w.heap.size) (hsz2 : 1 < w.heap.size ∧ 2 < w.heap.size) :
    Calls Tryd.prog 3 #[.slice A n cap] w (TrueBelow w) := by
  unfold maxLen at hn
  have HT := Lib.hid ht
  have HE := Lib.hid hE
  clear ht hE
  by_cases h1 : (1048576 : Int) < n
  · go_enter Tryd.func3, Tryd.ntmps3
    go_wp2
    go_ret
    exact ⟨rfl, Below.refl _ _⟩
  · have hd := Lib.hid (drawFormatInt_any A n cap w hA (by omega))
    have hA0 := Lib.hid hA
    clear hA
    go_enter Tryd.func3, Tryd.ntmps3
    go_wp2_with (first | (go_at_call 9; go_in) | fail)
    refine hd.out.mono ?_
    rintro e w1 ⟨⟨x, rfl, hx0, hx1⟩, hb1⟩
    clear hd
    go_wp2_with fail
    refine (implFormatInt_any x w1 hx0 hx1 (HT.out.below hb1 hsz)).mono ?_
    rintro e w2 ⟨rfl, hb2⟩
    have hb2' := hb1.trans (hb2.mono hb1.size)
    have hsl := Lib.itoa_length_le x (by omega) (by omega)
    have hss : (⟨(Lib.itoa x).toArray⟩ : ByteArray).size = (Lib.itoa x).length := by
      show (Lib.itoa x).toArray.size = _
      simp
    have hyes := Lib.hid (fun h0 h1 => implParseInt_yes ⟨(Lib.itoa x).toArray⟩ x w2 (by rw [hss]; omega) h0 h1 (by simp) (HT.out.below hb2' hsz) (Nat.lt_of_lt_of_le hsz hb2'.size))
    have hno := Lib.hid (fun h => implParseInt_no ⟨(Lib.itoa x).toArray⟩ w2 (by rw [hss]; omega) h (HT.out.below hb2' hsz) (HE.out.below hb2' hsz2) (Nat.lt_of_lt_of_le hsz hb2'.size))
    have HS := Lib.hid hss
    clear hss
    have hlenY := Lib.hid (len_yes x)
    have hlenN := Lib.hid (len_no x)
    by_cases hin : -999999999999 ≤ x ∧ x ≤ 999999999999
    · by_cases hx : x < 0
      · by_cases h12 : (Lib.itoa x).length ≤ 12
        · have hlI : ((⟨(Lib.itoa x).toArray⟩ : ByteArray).size : Int) = ((Lib.itoa x).length : Int) := by rw [HS.out]
          have hI1 : ((Lib.itoa x).length : Int) ≤ 12 := by omega
          go_wp2_with fail
          refine (hyes.out hin.1 hin.2).mono ?_
          rintro e w3 ⟨rfl, hb3⟩
          have hb3' := hb2'.trans (hb3.mono hb2'.size)
          clear hyes hno hlenY hlenN
          go_wp2_with fail
          refine (specFormatInt_any x w3 hx0 hx1).mono ?_
          rintro e w4 ⟨rfl, hb4⟩
          have hb4' := hb3'.trans (hb4.mono hb3'.size)
          have hd2 := Lib.hid (drawParseNumber_any A n cap w4 ((hA0.out.below hb4').keepMore hb4'.size) (by omega))
          go_wp2_with fail
          refine hd2.out.mono ?_
          rintro e w5 ⟨⟨t, rfl, hts⟩, hb5⟩
          have hb5' := hb4'.trans (hb5.mono hb4'.size)
          clear hd2
          by_cases hT : ∃ m : Int, 0 ≤ m ∧ m ≤ 999999 ∧ t.data.toList = Lib.itoa m
          · obtain ⟨m, hm0, hm1, hm⟩ := hT
            have hi := Lib.hid (implParseNumber_yes t m w5 (by omega) hm0 hm1 hm (HT.out.below hb5' hsz) (Nat.lt_of_lt_of_le hsz hb5'.size))
            obtain rfl := str_of_list hm
            clear hm
            go_wp2_with fail
            refine hi.out.mono ?_
            rintro e w6 ⟨rfl, hb6⟩
            have hb6' := hb5'.trans (hb6.mono hb5'.size)
            have hsp := Lib.hid (specParseNumber_any ⟨(Lib.itoa m).toArray⟩ w6 (by omega))
            clear hi
            go_wp2_with fail
            refine hsp.out.mono ?_
            rintro e w7 ⟨⟨m', rfl, hm', hm0', hm1'⟩ | ⟨rfl, hno'⟩, hb7⟩
            · have hb7' := hb6'.trans (hb7.mono hb6'.size)
              have hf := Lib.hid (implFormatInt_any m w7 (by omega) (by omega) (HT.out.below hb7' hsz))
              clear hm' hsp
              go_wp2_with fail
              refine hf.out.mono ?_
              rintro e w8 ⟨rfl, hb8⟩
              go_wp2
              go_ret
              exact ⟨rfl, hb7'.trans (hb8.mono hb7'.size)⟩
            · exact absurd rfl (hno' m hm0 hm1)
          · have hno2 : ∀ m : Int, 0 ≤ m → m ≤ 999999 → t.data.toList ≠ Lib.itoa m := fun m h0 h1 h => hT ⟨m, h0, h1, h⟩
            have hi := Lib.hid (implParseNumber_no t w5 (by omega) hno2 (HT.out.below hb5' hsz) (HE.out.below hb5' hsz2) (Nat.lt_of_lt_of_le hsz hb5'.size))
            have hN := Lib.hid hno2
            clear hT hno2
            go_wp2_with fail
            refine hi.out.mono ?_
            rintro e w6 ⟨rfl, hb6⟩
            have hb6' := hb5'.trans (hb6.mono hb5'.size)
            have hsp := Lib.hid (specParseNumber_any t w6 (by omega))
            clear hi
            go_wp2_with fail
            refine hsp.out.mono ?_
            rintro e w7 ⟨⟨m', rfl, hm', hm0', hm1'⟩ | ⟨rfl, hno'⟩, hb7⟩
            · exact absurd hm' (hN.out m' hm0' hm1')
            · clear hno'
              go_wp2
              go_ret
              exact ⟨rfl, hb6'.trans (hb7.mono hb6'.size)⟩
        · have hlI : ((⟨(Lib.itoa x).toArray⟩ : ByteArray).size : Int) = ((Lib.itoa x).length : Int) := by rw [HS.out]
          have hI1 : ¬ ((Lib.itoa x).length : Int) ≤ 12 := by omega
          have hI2 : ((Lib.itoa x).length : Int) ≤ 13 := by have := (hlenY.out hin.1 hin.2).2 hx; omega
          go_wp2_with fail
          refine (hyes.out hin.1 hin.2).mono ?_
          rintro e w3 ⟨rfl, hb3⟩
          have hb3' := hb2'.trans (hb3.mono hb2'.size)
          clear hyes hno hlenY hlenN
          go_wp2_with fail
          refine (specFormatInt_any x w3 hx0 hx1).mono ?_
          rintro e w4 ⟨rfl, hb4⟩
          have hb4' := hb3'.trans (hb4.mono hb3'.size)
          have hd2 := Lib.hid (drawParseNumber_any A n cap w4 ((hA0.out.below hb4').keepMore hb4'.size) (by omega))
          go_wp2_with fail
          refine hd2.out.mono ?_
          rintro e w5 ⟨⟨t, rfl, hts⟩, hb5⟩
          have hb5' := hb4'.trans (hb5.mono hb4'.size)
          clear hd2
          by_cases hT : ∃ m : Int, 0 ≤ m ∧ m ≤ 999999 ∧ t.data.toList = Lib.itoa m
          · obtain ⟨m, hm0, hm1, hm⟩ := hT
            have hi := Lib.hid (implParseNumber_yes t m w5 (by omega) hm0 hm1 hm (HT.out.below hb5' hsz) (Nat.lt_of_lt_of_le hsz hb5'.size))
            obtain rfl := str_of_list hm
            clear hm
            go_wp2_with fail
            refine hi.out.mono ?_
            rintro e w6 ⟨rfl, hb6⟩
            have hb6' := hb5'.trans (hb6.mono hb5'.size)
            have hsp := Lib.hid (specParseNumber_any ⟨(Lib.itoa m).toArray⟩ w6 (by omega))
            clear hi
            go_wp2_with fail
            refine hsp.out.mono ?_
            rintro e w7 ⟨⟨m', rfl, hm', hm0', hm1'⟩ | ⟨rfl, hno'⟩, hb7⟩
            · have hb7' := hb6'.trans (hb7.mono hb6'.size)
              have hf := Lib.hid (implFormatInt_any m w7 (by omega) (by omega) (HT.out.below hb7' hsz))
              clear hm' hsp
              go_wp2_with fail
              refine hf.out.mono ?_
              rintro e w8 ⟨rfl, hb8⟩
              go_wp2
              go_ret
              exact ⟨rfl, hb7'.trans (hb8.mono hb7'.size)⟩
            · exact absurd rfl (hno' m hm0 hm1)
          · have hno2 : ∀ m : Int, 0 ≤ m → m ≤ 999999 → t.data.toList ≠ Lib.itoa m := fun m h0 h1 h => hT ⟨m, h0, h1, h⟩
            have hi := Lib.hid (implParseNumber_no t w5 (by omega) hno2 (HT.out.below hb5' hsz) (HE.out.below hb5' hsz2) (Nat.lt_of_lt_of_le hsz hb5'.size))
            have hN := Lib.hid hno2
            clear hT hno2
            go_wp2_with fail
            refine hi.out.mono ?_
            rintro e w6 ⟨rfl, hb6⟩
            have hb6' := hb5'.trans (hb6.mono hb5'.size)
            have hsp := Lib.hid (specParseNumber_any t w6 (by omega))
            clear hi
            go_wp2_with fail
            refine hsp.out.mono ?_
            rintro e w7 ⟨⟨m', rfl, hm', hm0', hm1'⟩ | ⟨rfl, hno'⟩, hb7⟩
            · exact absurd hm' (hN.out m' hm0' hm1')
            · clear hno'
              go_wp2
              go_ret
              exact ⟨rfl, hb6'.trans (hb7.mono hb6'.size)⟩
      · have hlI : ((⟨(Lib.itoa x).toArray⟩ : ByteArray).size : Int) = ((Lib.itoa x).length : Int) := by rw [HS.out]
        have hI1 : ((Lib.itoa x).length : Int) ≤ 12 := by have := (hlenY.out hin.1 hin.2).1 (by omega); omega
        go_wp2_with fail
        refine (hyes.out hin.1 hin.2).mono ?_
        rintro e w3 ⟨rfl, hb3⟩
        have hb3' := hb2'.trans (hb3.mono hb2'.size)
        clear hyes hno hlenY hlenN
        go_wp2_with fail
        refine (specFormatInt_any x w3 hx0 hx1).mono ?_
        rintro e w4 ⟨rfl, hb4⟩
        have hb4' := hb3'.trans (hb4.mono hb3'.size)
        have hd2 := Lib.hid (drawParseNumber_any A n cap w4 ((hA0.out.below hb4').keepMore hb4'.size) (by omega))
        go_wp2_with fail
        refine hd2.out.mono ?_
        rintro e w5 ⟨⟨t, rfl, hts⟩, hb5⟩
        have hb5' := hb4'.trans (hb5.mono hb4'.size)
        clear hd2
        by_cases hT : ∃ m : Int, 0 ≤ m ∧ m ≤ 999999 ∧ t.data.toList = Lib.itoa m
        · obtain ⟨m, hm0, hm1, hm⟩ := hT
          have hi := Lib.hid (implParseNumber_yes t m w5 (by omega) hm0 hm1 hm (HT.out.below hb5' hsz) (Nat.lt_of_lt_of_le hsz hb5'.size))
          obtain rfl := str_of_list hm
          clear hm
          go_wp2_with fail
          refine hi.out.mono ?_
          rintro e w6 ⟨rfl, hb6⟩
          have hb6' := hb5'.trans (hb6.mono hb5'.size)
          have hsp := Lib.hid (specParseNumber_any ⟨(Lib.itoa m).toArray⟩ w6 (by omega))
          clear hi
          go_wp2_with fail
          refine hsp.out.mono ?_
          rintro e w7 ⟨⟨m', rfl, hm', hm0', hm1'⟩ | ⟨rfl, hno'⟩, hb7⟩
          · have hb7' := hb6'.trans (hb7.mono hb6'.size)
            have hf := Lib.hid (implFormatInt_any m w7 (by omega) (by omega) (HT.out.below hb7' hsz))
            clear hm' hsp
            go_wp2_with fail
            refine hf.out.mono ?_
            rintro e w8 ⟨rfl, hb8⟩
            go_wp2
            go_ret
            exact ⟨rfl, hb7'.trans (hb8.mono hb7'.size)⟩
          · exact absurd rfl (hno' m hm0 hm1)
        · have hno2 : ∀ m : Int, 0 ≤ m → m ≤ 999999 → t.data.toList ≠ Lib.itoa m := fun m h0 h1 h => hT ⟨m, h0, h1, h⟩
          have hi := Lib.hid (implParseNumber_no t w5 (by omega) hno2 (HT.out.below hb5' hsz) (HE.out.below hb5' hsz2) (Nat.lt_of_lt_of_le hsz hb5'.size))
          have hN := Lib.hid hno2
          clear hT hno2
          go_wp2_with fail
          refine hi.out.mono ?_
          rintro e w6 ⟨rfl, hb6⟩
          have hb6' := hb5'.trans (hb6.mono hb5'.size)
          have hsp := Lib.hid (specParseNumber_any t w6 (by omega))
          clear hi
          go_wp2_with fail
          refine hsp.out.mono ?_
          rintro e w7 ⟨⟨m', rfl, hm', hm0', hm1'⟩ | ⟨rfl, hno'⟩, hb7⟩
          · exact absurd hm' (hN.out m' hm0' hm1')
          · clear hno'
            go_wp2
            go_ret
            exact ⟨rfl, hb6'.trans (hb7.mono hb6'.size)⟩
    · have hout : ∀ m : Int, -999999999999 ≤ m → m ≤ 999999999999 → (⟨(Lib.itoa x).toArray⟩ : ByteArray).data.toList ≠ Lib.itoa m := fun m h0 h1 h => by
        have e := itoa_inj x m (by omega) (by omega) (by omega) (by omega) (by simpa using h)
        omega
      by_cases hx : x < 0
      · have hlI : ((⟨(Lib.itoa x).toArray⟩ : ByteArray).size : Int) = ((Lib.itoa x).length : Int) := by rw [HS.out]
        have hI1 : ¬ ((Lib.itoa x).length : Int) ≤ 12 := by have := (hlenN.out hin).2 hx; omega
        have hI2 : ¬ ((Lib.itoa x).length : Int) ≤ 13 := by have := (hlenN.out hin).2 hx; omega
        go_wp2_with fail
        refine (hno.out hout).mono ?_
        rintro e w3 ⟨rfl, hb3⟩
        have hb3' := hb2'.trans (hb3.mono hb2'.size)
        clear hyes hno hlenY hlenN
        go_wp2_with fail
        refine (specFormatInt_any x w3 hx0 hx1).mono ?_
        rintro e w4 ⟨rfl, hb4⟩
        have hb4' := hb3'.trans (hb4.mono hb3'.size)
        have hd2 := Lib.hid (drawParseNumber_any A n cap w4 ((hA0.out.below hb4').keepMore hb4'.size) (by omega))
        go_wp2_with fail
        refine hd2.out.mono ?_
        rintro e w5 ⟨⟨t, rfl, hts⟩, hb5⟩
        have hb5' := hb4'.trans (hb5.mono hb4'.size)
        clear hd2
        by_cases hT : ∃ m : Int, 0 ≤ m ∧ m ≤ 999999 ∧ t.data.toList = Lib.itoa m
        · obtain ⟨m, hm0, hm1, hm⟩ := hT
          have hi := Lib.hid (implParseNumber_yes t m w5 (by omega) hm0 hm1 hm (HT.out.below hb5' hsz) (Nat.lt_of_lt_of_le hsz hb5'.size))
          obtain rfl := str_of_list hm
          clear hm
          go_wp2_with fail
          refine hi.out.mono ?_
          rintro e w6 ⟨rfl, hb6⟩
          have hb6' := hb5'.trans (hb6.mono hb5'.size)
          have hsp := Lib.hid (specParseNumber_any ⟨(Lib.itoa m).toArray⟩ w6 (by omega))
          clear hi
          go_wp2_with fail
          refine hsp.out.mono ?_
          rintro e w7 ⟨⟨m', rfl, hm', hm0', hm1'⟩ | ⟨rfl, hno'⟩, hb7⟩
          · have hb7' := hb6'.trans (hb7.mono hb6'.size)
            have hf := Lib.hid (implFormatInt_any m w7 (by omega) (by omega) (HT.out.below hb7' hsz))
            clear hm' hsp
            go_wp2_with fail
            refine hf.out.mono ?_
            rintro e w8 ⟨rfl, hb8⟩
            go_wp2
            go_ret
            exact ⟨rfl, hb7'.trans (hb8.mono hb7'.size)⟩
          · exact absurd rfl (hno' m hm0 hm1)
        · have hno2 : ∀ m : Int, 0 ≤ m → m ≤ 999999 → t.data.toList ≠ Lib.itoa m := fun m h0 h1 h => hT ⟨m, h0, h1, h⟩
          have hi := Lib.hid (implParseNumber_no t w5 (by omega) hno2 (HT.out.below hb5' hsz) (HE.out.below hb5' hsz2) (Nat.lt_of_lt_of_le hsz hb5'.size))
          have hN := Lib.hid hno2
          clear hT hno2
          go_wp2_with fail
          refine hi.out.mono ?_
          rintro e w6 ⟨rfl, hb6⟩
          have hb6' := hb5'.trans (hb6.mono hb5'.size)
          have hsp := Lib.hid (specParseNumber_any t w6 (by omega))
          clear hi
          go_wp2_with fail
          refine hsp.out.mono ?_
          rintro e w7 ⟨⟨m', rfl, hm', hm0', hm1'⟩ | ⟨rfl, hno'⟩, hb7⟩
          · exact absurd hm' (hN.out m' hm0' hm1')
          · clear hno'
            go_wp2
            go_ret
            exact ⟨rfl, hb6'.trans (hb7.mono hb6'.size)⟩
      · have hlI : ((⟨(Lib.itoa x).toArray⟩ : ByteArray).size : Int) = ((Lib.itoa x).length : Int) := by rw [HS.out]
        have hI1 : ¬ ((Lib.itoa x).length : Int) ≤ 12 := by have := (hlenN.out hin).1 (by omega); omega
        go_wp2_with fail
        refine (hno.out hout).mono ?_
        rintro e w3 ⟨rfl, hb3⟩
        have hb3' := hb2'.trans (hb3.mono hb2'.size)
        clear hyes hno hlenY hlenN
        go_wp2_with fail
        refine (specFormatInt_any x w3 hx0 hx1).mono ?_
        rintro e w4 ⟨rfl, hb4⟩
        have hb4' := hb3'.trans (hb4.mono hb3'.size)
        have hd2 := Lib.hid (drawParseNumber_any A n cap w4 ((hA0.out.below hb4').keepMore hb4'.size) (by omega))
        go_wp2_with fail
        refine hd2.out.mono ?_
        rintro e w5 ⟨⟨t, rfl, hts⟩, hb5⟩
        have hb5' := hb4'.trans (hb5.mono hb4'.size)
        clear hd2
        by_cases hT : ∃ m : Int, 0 ≤ m ∧ m ≤ 999999 ∧ t.data.toList = Lib.itoa m
        · obtain ⟨m, hm0, hm1, hm⟩ := hT
          have hi := Lib.hid (implParseNumber_yes t m w5 (by omega) hm0 hm1 hm (HT.out.below hb5' hsz) (Nat.lt_of_lt_of_le hsz hb5'.size))
          obtain rfl := str_of_list hm
          clear hm
          go_wp2_with fail
          refine hi.out.mono ?_
          rintro e w6 ⟨rfl, hb6⟩
          have hb6' := hb5'.trans (hb6.mono hb5'.size)
          have hsp := Lib.hid (specParseNumber_any ⟨(Lib.itoa m).toArray⟩ w6 (by omega))
          clear hi
          go_wp2_with fail
          refine hsp.out.mono ?_
          rintro e w7 ⟨⟨m', rfl, hm', hm0', hm1'⟩ | ⟨rfl, hno'⟩, hb7⟩
          · have hb7' := hb6'.trans (hb7.mono hb6'.size)
            have hf := Lib.hid (implFormatInt_any m w7 (by omega) (by omega) (HT.out.below hb7' hsz))
            clear hm' hsp
            go_wp2_with fail
            refine hf.out.mono ?_
            rintro e w8 ⟨rfl, hb8⟩
            go_wp2
            go_ret
            exact ⟨rfl, hb7'.trans (hb8.mono hb7'.size)⟩
          · exact absurd rfl (hno' m hm0 hm1)
        · have hno2 : ∀ m : Int, 0 ≤ m → m ≤ 999999 → t.data.toList ≠ Lib.itoa m := fun m h0 h1 h => hT ⟨m, h0, h1, h⟩
          have hi := Lib.hid (implParseNumber_no t w5 (by omega) hno2 (HT.out.below hb5' hsz) (HE.out.below hb5' hsz2) (Nat.lt_of_lt_of_le hsz hb5'.size))
          have hN := Lib.hid hno2
          clear hT hno2
          go_wp2_with fail
          refine hi.out.mono ?_
          rintro e w6 ⟨rfl, hb6⟩
          have hb6' := hb5'.trans (hb6.mono hb5'.size)
          have hsp := Lib.hid (specParseNumber_any t w6 (by omega))
          clear hi
          go_wp2_with fail
          refine hsp.out.mono ?_
          rintro e w7 ⟨⟨m', rfl, hm', hm0', hm1'⟩ | ⟨rfl, hno'⟩, hb7⟩
          · exact absurd hm' (hN.out m' hm0' hm1')
          · clear hno'
            go_wp2
            go_ret
            exact ⟨rfl, hb6'.trans (hb7.mono hb6'.size)⟩

theorem own : ownKnob Tryd.prog.godebug = none := by kernel_rfl
theorem laidOut : laidOutB Tryd.prog = true := by kernel_rfl

/-- What the row lists. -/
def laid : List (String × DataW Unit) := Rows.fnNumbersRow.laid

set_option maxRecDepth 100000 in
theorem lifted (os : Os) (started : os.Started) (H : Type) (enc : TypeId × Value → H) :
    ReturnsInHanded {} Tryd.checked os 3 .any (fun w args => (Rows.fnNumbersSpec.pre enc Tryd.prog Tryd.f3 [] false w args ∧ laidMetH Tryd.prog laid w) ∧ sizedMet enc Tryd.prog Tryd.f3 (OpenSpec.ofChange Rows.fnNumbersSpec) false w args)
      (Rows.fnNumbersSpec.post enc Tryd.prog Tryd.f3 false true false false) := by
  refine law_lifted_laid (C := Tryd.checked) (bt := 4) own laidOut started (by kernel_rfl) Tryd.func3 rfl rfl Tryd.underlying4 (by kernel_rfl) ?_
    (ChangeSpec.witness_shaped (enc := enc) (C := Tryd.checked) (os := os) (X := fun w _ => laidMetH Tryd.prog laid w) false (World.laidAll Tryd.prog os laid) #[.slice none 0 0] 8 (World.laidAll_os _ _ _) (World.shaped_of_ZipB (by kernel_rfl) (by kernel_rfl)) (by kernel_rfl) (by kernel_rfl) (by kernel_rfl)
      (by rw [MakeChecks.laidMetH_plain _ _ _ (by kernel_rfl)]; exact laidMet_laidAll _ (by kernel_rfl) (by kernel_rfl))) ?_
  · intro ds hd
    have : ds.length = 1 := hd
    match ds, this with
    | [d1], _ => rfl
  · intro W base args ds p hval0 hA0 hlt hL hsh
    have hval : ∀ (j : Nat) t v, Tryd.f3.params[j]? = some t → args[j]? = some v → Value.okWide Tryd.prog W .any base t v := hval0
    have hA : DataW.TrodAll enc Tryd.prog W 0 (fun _ => true) true Tryd.f3.params.toList args.toList ds p := hA0
    rw [Tryd.params3] at hA hval
    obtain ⟨v0, d0, rfl, rfl, h0⟩ := trodAll_one hA
    obtain ⟨A0, a0, c0, rfl, ra0, la0⟩ := open_bytes_arg Tryd.underlying22 Tryd.underlying5 (by kernel_rfl) (hval 0 22 v0 rfl rfl) h0 (fun x hx => hlt x (by simp [hx]))
    rw [MakeChecks.laidMetH_plain _ _ _ (by kernel_rfl)] at hL
    have ht : Pow10At W := tab_of_laid (g := 0) (t := 88) (e := 71) (n := 20) (by kernel_rfl) (by kernel_rfl) Tryd.underlying88 Tryd.underlying71 (by kernel_rfl) (by kernel_rfl) hL (by simp only [laid, Rows.fnNumbersRow]; exact List.mem_of_getElem? (i := 2) rfl)
    have hsz := block_lt_of_cell (Lib.TabIs.cell ht (g := 0) (by kernel_rfl) 0 (by decide))
    have hE : ErrsAt W := ⟨iface_of_laid (g := 1) (t := 54) (by kernel_rfl) (by kernel_rfl) Tryd.underlying54 hL (by simp only [laid, Rows.fnNumbersRow]; exact List.mem_of_getElem? (i := 4) rfl),
      iface_of_laid (g := 2) (t := 54) (by kernel_rfl) (by kernel_rfl) Tryd.underlying54 hL (by simp only [laid, Rows.fnNumbersRow]; exact List.mem_of_getElem? (i := 3) rfl)⟩
    have hsz2 : 1 < W.heap.size ∧ 2 < W.heap.size := by
      obtain ⟨⟨t1, p1, e1⟩, ⟨t2, p2, e2⟩⟩ := hE
      exact ⟨var_lt (by kernel_rfl) e1, var_lt (by kernel_rfl) e2⟩
    exact walk A0 a0 c0 W ra0 la0 ht hE hsz hsz2

theorem over : Rows.FnNumbersSaid :=
  OpenClaim.holds_of_wide 3 Tryd.f3 rfl rfl rfl rfl rfl rfl rfl ⟨rfl, rfl, rfl, rfl, rfl⟩ rfl rfl rfl rfl rfl (by kernel_rfl) Tryd.func3 (by kernel_rfl)
    (of_decide_eq_true (by kernel_rfl)) (by unfold Func.isWrapper; rw [if_neg (of_decide_eq_false (by kernel_rfl))]; exact ⟨rfl, rfl⟩)
    (fun os started H enc _ => lifted os started H enc)

theorem proved : Rows.FnNumbersCardSaid :=
  Claim7.holds_tied_plain_at .later [] Rows.fnNumbersCard.laidKinds true Rows.fnNumbersCard.stood.harness true
    over (fun _ h => by cases h) (by kernel_rfl) (fun _ h => by cases h) fnNumbers_row_tie rfl ⟨rfl, rfl⟩ (by kernel_rfl) rfl
    (fun f fn hf hfn => by
      obtain rfl : f = 3 := Option.some.inj ((show Tryd.prog.funcNamed "loop.example/g00592/laws.FnNumbers" = some 3 by kernel_rfl).symm.trans hf) |>.symm
      obtain rfl : fn = Tryd.f3 := (Option.some.inj (Tryd.func3.symm.trans hfn)).symm
      exact ⟨by kernel_rfl, fun j t ht => by
        rw [Tryd.params3] at ht
        have hm := Array.mem_of_getElem? ht
        have hall : (#[22].toList.all fun u => !Tryd.prog.wantsStandIn u) = true := by kernel_rfl
        exact (show Tryd.prog.wantsStandIn t = false by simpa using List.all_eq_true.1 hall t (by simpa using hm))⟩)
    (by kernel_rfl)

end Go.Proofs.YthplgklegoeelaaDoor.lawFnNumbers
