/- Lemmas: ReadVInt, ImplIsName, RPos, ReadLab, ReadO. -/
import Derived.Test.YtlmbnefoobameaaDoorLawParseOptic_9
import Derived.Deep.RegionHeldLaw
import Derived.Shelf.LaysM
import Derived.Shelf.Strconv.Clone
import Derived.Test.YtlmbnefoobameaaDoorProg
import Derived.Test.YtlmbnefoobameaaDoorLawParseOptic_4
import Derived.Test.YtlmbnefoobameaaDoorLawParseOptic_1
import Derived.Laws.RangeAny
import Derived.Shelf.Strings.Prefix
import Derived.Shelf.GgClosure.StringsRunes
import Derived.OrdersHeld
import Derived.RegionTactic
import Derived.Lib.Hide
import Derived.Test.YtlmbnefoobameaaDoorLawParseOptic_6
import Derived.Test.YtlmbnefoobameaaDoorLawParseOptic_8
import Derived.Deep.RegionHeld3
import Derived.Deep.DeepCutAuto
import Derived.Deep.AppendLies
import Derived.Laws.EntriesVeiled
import Derived.Deep.CutRange
import Derived.Test.YtlmbnefoobameaaDoorLawParseOptic_7
import Derived.Deep.DrawnRows

section
namespace Go.Proofs.YtlmbnefoobameaaDoor
open Go.RowKit

theorem two_bytes (s : ByteArray) (i : Nat) (h : i + 1 < s.size) : (s.extract i (i + 2)).toList = [s[i]'(by omega), s[i + 1]] := by
  rw [ByteArray.toList_eq, ByteArray.data_extract, Array.toList_extract, List.extract_eq_take_drop, Nat.add_sub_cancel_left]
  have h1 := restOf_get s i (by omega)
  have h2 := restOf_get s (i + 1) h
  unfold restOf at h1 h2
  rw [h1, h2]
  rfl
theorem eats_two (a c : UInt8) (s : ByteArray) (i : Nat) : (∃ h : i + 1 < s.size, s[i] = a ∧ s[i + 1] = c ∧ eats [a, c] (restOf s i) = some (restOf s (i + 2))) ∨ (eats [a, c] (restOf s i) = none ∧ ∀ h : i + 1 < s.size, ¬ (s[i] = a ∧ s[i + 1] = c)) := by
  by_cases h : i + 1 < s.size
  · have h1 := restOf_get s i (by omega)
    have h2 := restOf_get s (i + 1) h
    by_cases hc : s[i] = a ∧ s[i + 1] = c
    · refine Or.inl ⟨h, hc.1, hc.2, ?_⟩
      rw [h1, h2, hc.1, hc.2]
      exact eats_append [a, c] _
    · refine Or.inr ⟨?_, fun _ => hc⟩
      rw [h1, h2]
      unfold eats
      rw [if_neg]
      intro e
      simp [List.isPrefixOf] at e
      exact hc ⟨e.1.symm, e.2.symm⟩
  · refine Or.inr ⟨?_, fun h' => absurd h' h⟩
    unfold eats
    rw [if_neg]
    intro e
    have e2 := List.IsPrefix.length_le (List.isPrefixOf_iff_prefix.1 e)
    rw [restOf_len] at e2
    simp at e2
    omega

set_option maxHeartbeats 1000000 in
theorem take2_yes (p i : Nat) (s : ByteArray) (a c : UInt8) (w : World) (h : RdAt w p s i false) (hs : s.size ≤ 1048576) (hi : i + 1 < s.size) (ha : s[i]'(by omega) = a) (hc : s[i + 1] = c) :
    Calls Tryd.prog 102 #[.pointer (some ⟨p, 0, none⟩), .string ⟨#[a, c]⟩] w (Read w p s (.bool true) (i + 2) false) := by
  have hq : ((s.extract i (i + 2)).toList == [a, c]) = true := by rw [two_bytes s i hi, ha, hc]; simp
  have c0 : w.cell? ⟨p, 0, none⟩ = some (.string s) := Whole1.cell h.1 0
  have c1 : w.cell? ⟨p, 1, none⟩ = some (.int .i64 (i : Int)) := Whole1.cell h.1 1
  have c2 : w.cell? ⟨p, 2, none⟩ = some (.bool false) := Whole1.cell h.1 2
  have f1 : w.frozen? ⟨p, 1, none⟩ = false := Whole1.free h.1 1
  have hle : decide ((s.size : Int) < (i : Int) + 2) = false := decide_eq_false (by omega)
  have hwr : IntKind.i64.wrap ((i : Int) + 2) = (i : Int) + 2 := by rw [IntKind.wrap_i64]; omega
  have hl1 : (0 : Int) ≤ (i : Int) := by omega
  have hl2 : (i : Int) ≤ (i : Int) + 2 := by omega
  have hl3 : (i : Int) + 2 ≤ (s.size : Int) := by omega
  have HH := Lib.hid h
  clear h ha hc
  go_enter Tryd.func102, Tryd.ntmps102
  go_wp2
  go_quiet (fail)
  go_wp2
  go_ret
  exact ⟨rfl, (HH.out.drewN _).seti (i + 2) (by omega), only_set (only_drewN (only_refl _ _) _) 1 _⟩

set_option maxHeartbeats 1000000 in
theorem take2_other (p i : Nat) (s : ByteArray) (a c : UInt8) (w : World) (h : RdAt w p s i false) (hs : s.size ≤ 1048576) (hc : ∀ h : i + 1 < s.size, ¬ (s[i]'(by omega) = a ∧ s[i + 1] = c)) :
    Calls Tryd.prog 102 #[.pointer (some ⟨p, 0, none⟩), .string ⟨#[a, c]⟩] w (Read w p s (.bool false) i false) := by
  have c0 : w.cell? ⟨p, 0, none⟩ = some (.string s) := Whole1.cell h.1 0
  have c1 : w.cell? ⟨p, 1, none⟩ = some (.int .i64 (i : Int)) := Whole1.cell h.1 1
  have c2 : w.cell? ⟨p, 2, none⟩ = some (.bool false) := Whole1.cell h.1 2
  have hwr : IntKind.i64.wrap ((i : Int) + 2) = (i : Int) + 2 := by
    have := h.2
    rw [IntKind.wrap_i64]
    omega
  have HH := Lib.hid h
  clear h
  by_cases hi : i + 1 < s.size
  · have hq : ((s.extract i (i + 2)).toList == [a, c]) = false := by
      rw [two_bytes s i hi, beq_eq_false_iff_ne]
      intro e
      simp at e
      exact hc hi e
    have hle : decide ((s.size : Int) < (i : Int) + 2) = false := decide_eq_false (by omega)
    have hl1 : (0 : Int) ≤ (i : Int) := by omega
    have hl2 : (i : Int) ≤ (i : Int) + 2 := by omega
    have hl3 : (i : Int) + 2 ≤ (s.size : Int) := by omega
    clear hc
    go_enter Tryd.func102, Tryd.ntmps102
    go_wp2
    go_quiet (fail)
    go_wp2
    go_ret
    exact ⟨rfl, HH.out.drewN _, only_drewN (only_refl _ _) _⟩
  · have hle : decide ((s.size : Int) < (i : Int) + 2) = true := decide_eq_true (by omega)
    clear hc
    go_enter Tryd.func102, Tryd.ntmps102
    go_wp2
    go_quiet (fail)
    go_wp2
    go_ret
    exact ⟨rfl, HH.out.drewN _, only_drewN (only_refl _ _) _⟩

theorem span_end (f : UInt8 → Bool) (s : ByteArray) (k : Nat) (hk : k ≤ s.size) (hstop : ∀ h : k < s.size, f s[k] = false) : ∀ (d i : Nat), i + d = k → (∀ m, (h : m < k) → i ≤ m → f (s[m]'(by omega)) = true) →
    (restOf s i).dropWhile f = restOf s k ∧ (restOf s i).takeWhile f = (s.extract i k).data.toList := by
  intro d
  induction d with
  | zero =>
    intro i hi _
    obtain rfl : i = k := by omega
    have e0 : (s.extract i i).data.toList = [] := by
      rw [ByteArray.data_extract]
      simp
    rw [e0]
    by_cases h : i < s.size
    · rw [restOf_get s i h, List.dropWhile_cons_of_neg (by rw [hstop h]; simp), List.takeWhile_cons_of_neg (by rw [hstop h]; simp)]
      exact ⟨rfl, rfl⟩
    · rw [restOf_end s i (by omega)]
      exact ⟨rfl, rfl⟩
  | succ d ih =>
    intro i hi hall
    have h : i < s.size := by omega
    obtain ⟨h1, h2⟩ := ih (i + 1) (by omega) fun m hm him => hall m hm (by omega)
    have h3 := hall i (by omega) (Nat.le_refl _)
    rw [restOf_get s i h, List.dropWhile_cons_of_pos h3, List.takeWhile_cons_of_pos h3]
    refine ⟨h1, ?_⟩
    rw [h2]
    simp only [ByteArray.data_extract, Array.toList_extract, List.extract_eq_take_drop]
    rw [List.drop_eq_getElem_cons (show i < s.data.toList.length by simpa using h), show k - i = (k - (i + 1)) + 1 by omega, List.take_succ_cons, Array.getElem_toList]
    rfl
theorem extract_cons (s : ByteArray) (i k : Nat) (h : i < s.size) (hk : i < k) : (s.extract i k).data.toList = s[i] :: (s.extract (i + 1) k).data.toList := by
  simp only [ByteArray.data_extract, Array.toList_extract, List.extract_eq_take_drop]
  rw [List.drop_eq_getElem_cons (show i < s.data.toList.length by simpa using h), show k - i = (k - (i + 1)) + 1 by omega, List.take_succ_cons, Array.getElem_toList]
  rfl
/-- What the number's text is, where its digits end at k. -/
theorem int_at (s : ByteArray) (i i0 k : Nat) (hk : k ≤ s.size) (hik : i0 ≤ k) (hstop : ∀ h : k < s.size, digC s[k] = false) (hall : ∀ m, (h : m < k) → i0 ≤ m → digC (s[m]'(by omega)) = true) (h0 : (∃ h : i < s.size, s[i] = 45 ∧ i0 = i + 1) ∨ ((¬ ∃ h : i < s.size, s[i] = 45) ∧ i0 = i)) :
    rdIntV (restOf s i) = match unItoa (s.extract i k).data.toList with | none => none | some n => some (.mk 1 n ⟨#[]⟩ [] [], restOf s k) := by
  obtain ⟨h1, h2⟩ := span_end digC s k hk hstop (k - i0) i0 (by omega) hall
  unfold rdIntV
  rcases h0 with ⟨h, hc, rfl⟩ | ⟨h, rfl⟩
  · rw [eat_hit h hc, extract_cons s i k h (by omega), hc]
    simp only [h1, h2]
    cases unItoa (45 :: (s.extract (i + 1) k).data.toList) <;> rfl
  · rw [eat_miss h]
    simp only [h1, h2]
    cases unItoa (s.extract i0 k).data.toList <;> rfl

theorem specParseInt_yes (s : ByteArray) (n : Int) (w : World) (hs : s.size ≤ 1048576) (h : unItoa s.data.toList = some n) :
    Calls Tryd.prog 147 #[.string s] w fun e w' => e = .returned (.tuple #[.int .i64 n, .bool true]) ∧ Below w.heap.size w w' := by
  refine (specParseInt_any s w hs).mono ?_
  rintro e w' ⟨⟨m, rfl, hm, h1, h2⟩ | ⟨rfl, hno⟩, hb⟩
  · have e2 := (unItoa_of hm h1 h2).symm.trans h
    injection e2 with e2
    subst e2
    exact ⟨rfl, hb⟩
  · have e2 := unItoa_some h
    exact absurd e2.1 (hno n e2.2.1 e2.2.2)
theorem specParseInt_no (s : ByteArray) (w : World) (hs : s.size ≤ 1048576) (h : unItoa s.data.toList = none) :
    Calls Tryd.prog 147 #[.string s] w fun e w' => e = .returned (.tuple #[.int .i64 0, .bool false]) ∧ Below w.heap.size w w' := by
  refine (specParseInt_any s w hs).mono ?_
  rintro e w' ⟨⟨m, rfl, hm, h1, h2⟩ | ⟨rfl, hno⟩, hb⟩
  · rw [unItoa_of hm h1 h2] at h
    cases h
  · exact ⟨rfl, hb⟩
theorem Below.from_drew {w w' : World} {n : Nat} (h : Below n w.drew w') : Below n w w' := ⟨h.os, h.tape, h.output, h.size, h.block⟩

end Go.Proofs.YtlmbnefoobameaaDoor
namespace Go.Proofs.YtlmbnefoobameaaDoor.V
open Go.RowKit
attribute [local go_sem ↓] Go.wp_at_zero Go.wp_at_succ

/-- The reader, and the zero box of the result. -/
structure Hold (w W : World) (p r : Nat) (s : ByteArray) (j : Nat) (bad : Bool) : Prop where
  rd : RdAt W p s j bad
  zero : ZeroBox W r
  grown : w.grownBy W (some p)
theorem Hold.read {w W W' : World} {p r j j' : Nat} {s : ByteArray} {bad bad' : Bool} (h : Hold w W p r s j bad) (hr : RdAt W' p s j' bad') (hg : W.grownBy W' (some p)) (hrp : r ≠ p) : Hold w W' p r s j' bad' :=
  ⟨hr, (hg.block r h.zero.lt (fun e => by injection e with e; exact hrp e)).trans h.zero, only_trans h.grown hg⟩
theorem Hold.more {w W W' : World} {p r j B : Nat} {s : ByteArray} {bad : Bool} (h : Hold w W p r s j bad) (hb : Below B W W') (hr : r < B) (hp : p < B) (hB : w.heap.size ≤ B) : Hold w W' p r s j bad :=
  ⟨h.rd.below hb hp, h.zero.below hb hr, grown_low h.grown hb hB⟩
theorem Hold.setb {w W : World} {p j : Nat} {s : ByteArray} {bad : Bool} (h : Hold w W p w.heap.size s j bad) (b : Bool) (hp : p < w.heap.size := by assumption) : Hold w (W.setCell ⟨p, 2, none⟩ (.bool b)) p w.heap.size s j b :=
  ⟨h.rd.setb b, (Below.heap_setCell _ _ _ _ (by show w.heap.size ≠ p; omega)).trans h.zero, only_set h.grown 2 _⟩
theorem fin_good {w W : World} {p j : Nat} {s : ByteArray} {v : Value} {t : Va} (h : Hold w W p w.heap.size s j false) (hO : OwnVa W (w.heap.size + 1) v t) (hp : p < w.heap.size) (a b c d e : Value) :
    Goods w p s t (restOf s j) (.returned v) (((((W.setCell ⟨w.heap.size, 0, none⟩ a).setCell ⟨w.heap.size, 1, none⟩ b).setCell ⟨w.heap.size, 2, none⟩ c).setCell ⟨w.heap.size, 3, none⟩ d).setCell ⟨w.heap.size, 4, none⟩ e) :=
  ⟨v, j, rfl, rfl, h.rd.block (set5_keep _ _ _ _ _ _ _ _ (by omega)), (hO.keep (by simp [World.setCell]) (fun g hg _ => set5_keep _ _ _ _ _ _ _ _ (by omega))).base (by omega), box_grown5 h.grown (Nat.le_refl _) a b c d e⟩
theorem fin_bad {w W : World} {p j : Nat} {s : ByteArray} (h : Hold w W p w.heap.size s j true) (hp : p < w.heap.size) (x y : Int) (nm : ByteArray) (L A : Option Addr) (n lc m ac : Nat) (a b c d e : Value) :
    Bads w p s (.returned (.agg #[.int .i64 x, .int .i64 y, .string nm, .slice L n lc, .slice A m ac])) (((((W.setCell ⟨w.heap.size, 0, none⟩ a).setCell ⟨w.heap.size, 1, none⟩ b).setCell ⟨w.heap.size, 2, none⟩ c).setCell ⟨w.heap.size, 3, none⟩ d).setCell ⟨w.heap.size, 4, none⟩ e) :=
  ⟨x, y, nm, L, n, lc, A, m, ac, j, rfl, h.rd.block (set5_keep _ _ _ _ _ _ _ _ (by omega)), box_grown5 h.grown (Nat.le_refl _) a b c d e⟩
/-- A reading does what the model does. -/
def Does (x : Option (Va × List UInt8)) (w : World) (p : Nat) (s : ByteArray) (e : Ending) (w' : World) : Prop := (x = none ∧ Bads w p s e w') ∨ ∃ t r, x = some (t, r) ∧ Goods w p s t r e w'

set_option maxHeartbeats 4000000 in
set_option maxRecDepth 100000 in
theorem readInt (w : World) (p i : Nat) (s : ByteArray) (hr : RdAt w p s i false) (hs : s.size ≤ 1048576) :
    Calls Tryd.prog 134 #[.pointer (some ⟨p, 0, none⟩)] w (Does (rdIntV (restOf s i)) w p s) := by
  have hpl := hr.lt
  have hrp : w.heap.size ≠ p := by omega
  obtain ⟨hb0, r0, hs0⟩ := boxes1 w 27 #[.int .i64 0, .int .i64 0, .string ⟨#[]⟩, .slice none 0 0, .slice none 0 0]
  have HH0 := Lib.hid (⟨hr.below hb0 hpl, r0, grown_low (only_refl w (some p)) hb0 (Nat.le_refl _)⟩ : Hold w (w.alloc (.cells #[.int .i64 0, .int .i64 0, .string ⟨#[]⟩, .slice none 0 0, .slice none 0 0] 27)) p w.heap.size s i false)
  have hil := hr.2
  have HT : Hid (∀ W, RdAt W p s i false → Calls Tryd.prog 102 #[.pointer (some ⟨p, 0, none⟩), .string ⟨#[45]⟩] W fun e w' => ∃ (b : Bool) (i0 : Nat), e = .returned (.bool b) ∧ RdAt w' p s i0 false ∧ W.grownBy w' (some p) ∧ i ≤ i0 ∧ Hid ((∃ h : i < s.size, s[i] = 45 ∧ i0 = i + 1) ∨ ((¬ ∃ h : i < s.size, s[i] = 45) ∧ i0 = i))) := Lib.hid fun W hW => by
    by_cases h : ∃ h : i < s.size, s[i] = 45
    · obtain ⟨hk, hc⟩ := h
      exact (take_yes p i s 45 W hW hs hk hc).mono fun e w' ⟨h1, h2, h3⟩ => ⟨true, i + 1, h1, h2, h3, by omega, Lib.hid (Or.inl ⟨hk, hc, rfl⟩)⟩
    · exact (take_other p i s 45 W hW hs (eat_miss h)).mono fun e w' ⟨h1, h2, h3⟩ => ⟨false, i, h1, h2, h3, by omega, Lib.hid (Or.inr ⟨h, rfl⟩)⟩
  have c1 : (w.alloc (.cells #[.int .i64 0, .int .i64 0, .string ⟨#[]⟩, .slice none 0 0, .slice none 0 0] 27)).cell? ⟨p, 1, none⟩ = some (.int .i64 (i : Int)) := Whole1.cell HH0.out.rd.1 1
  clear hr hb0 r0 hs0
  go_enter Tryd.func134, Tryd.ntmps134
  go_wp2_with fail
  clear c1
  generalize w.alloc (.cells #[.int .i64 0, .int .i64 0, .string ⟨#[]⟩, .slice none 0 0, .slice none 0 0] 27) = w0 at *
  refine (HT.out w0 HH0.out.rd).mono ?_
  rintro e w2 ⟨b, i0, rfl, hr2, hg2, hii, H0⟩
  have HH2 := Lib.hid (HH0.out.read hr2 hg2 hrp)
  clear hr2 hg2
  go_wp2
  go_loopw [] (fun wr => ∃ k : Nat, i0 ≤ k ∧ Hold w wr p w.heap.size s k false ∧ (∀ m, (h : m < s.size) → m < k → i0 ≤ m → digC s[m] = true)) (fun wr => s.size - placeOf wr p)
  case atStart => exact ⟨i0, Nat.le_refl _, HH2.out, fun m _ h1 h2 => absurd h1 (by omega)⟩
  case round =>
    obtain ⟨k, hik, hz, hall⟩ := hrel
    have c0 : wr.cell? ⟨p, 0, none⟩ = some (.string s) := Whole1.cell hz.rd.1 0
    have c1 : wr.cell? ⟨p, 1, none⟩ = some (.int .i64 (k : Int)) := Whole1.cell hz.rd.1 1
    have f1 : wr.frozen? ⟨p, 1, none⟩ = false := Whole1.free hz.rd.1 1
    have hk := hz.rd.2
    have hpl2 := Lib.hid hz.rd.place
    have HZ := Lib.hid hz
    have HA := Lib.hid hall
    have HR := Lib.hid hz.rd
    clear hz hall
    have done : (∀ h : k < s.size, digC s[k] = false) → Hid (rdIntV (restOf s i) = match unItoa (s.extract i k).data.toList with | none => none | some n => some (.mk 1 n ⟨#[]⟩ [] [], restOf s k)) := fun hst => Lib.hid (int_at s i i0 k hk hik hst (fun m hm him => HA.out m (by omega) hm him) H0.out)
    by_cases hlt : k < s.size
    · have hltI : decide ((k : Int) < (s.size : Int)) = true := decide_eq_true (by omega)
      have hk0 : (0 : Int) ≤ (k : Int) := by omega
      have hkl : (k : Int) < (s.size : Int) := by omega
      have hwr : IntKind.i64.wrap ((k : Int) + 1) = (k : Int) + 1 := by rw [IntKind.wrap_i64]; omega
      have hW : digC s[k] = (decide (48 ≤ s[k].toNat) && decide (s[k].toNat ≤ 57)) := rfl
      have HW := Lib.hid hW
      have DONE := Lib.hid done
      clear hW done
      by_cases h48 : 48 ≤ s[k].toNat
      · by_cases h57 : s[k].toNat ≤ 57
        · have i1 : decide ((48 : Int) ≤ (s[k].toNat : Int)) = true := decide_eq_true (by omega)
          have i2 : decide ((s[k].toNat : Int) ≤ 57) = true := decide_eq_true (by omega)
          have HN : Hid (∀ m, (h : m < s.size) → m < k + 1 → i0 ≤ m → digC s[m] = true) := Lib.hid fun m hm h1 h2 => by
            by_cases e : m = k
            · subst e
              rw [HW.out]
              simp [h48, h57]
            · exact HA.out m hm (by omega) h2
          clear DONE h48 h57
          go_wp2
          go_quiet (fail)
          go_wp2
          go_roundw
          case rel => exact ⟨k + 1, by omega, ⟨(HR.out.drewN _).seti (k + 1) (by omega), (Below.heap_setCell _ _ _ _ (by show w.heap.size ≠ p; exact hrp)).trans HZ.out.zero, only_set (only_drewN HZ.out.grown _) 1 _⟩, HN.out⟩
          case measure =>
            rw [hpl2.out]
            exact Nat.lt_of_le_of_lt (Nat.le_of_eq (congrArg (fun x => s.size - x) ((HR.out.drewN _).seti (k + 1) (by omega)).place)) (show s.size - (k + 1) < s.size - k by omega)
        · have i1 : decide ((48 : Int) ≤ (s[k].toNat : Int)) = true := decide_eq_true (by omega)
          have i2 : decide ((s[k].toNat : Int) ≤ 57) = false := decide_eq_false (by omega)
          have HD := DONE.out (fun _ => by rw [HW.out]; simp; omega)
          clear DONE h48 h57
          have hes : (s.extract i k).size ≤ 1048576 := by rw [ByteArray.size_extract]; omega
          have hl0 : (0 : Int) ≤ (i : Int) := by omega
          have hl1 : (i : Int) ≤ (k : Int) := by omega
          have hl2 : (k : Int) ≤ (s.size : Int) := by omega
          cases hun : unItoa (s.extract i k).data.toList with
          | none =>
            have HMOD : Hid (rdIntV (restOf s i) = none) := Lib.hid (HD.out.trans (by rw [hun]))
            have HUN := Lib.hid hun
            clear hun HD
            have HP := Lib.hid (fun W => specParseInt_no (s.extract i k) W hes HUN.out)
            go_wp2
            go_quiet (fail)
            go_wp2
            go_region_law (first | (go_simp; go_at_call 147; (with_reducible refine (HP.out _).mono ?_); rintro e w4 ⟨rfl, hb4'⟩; have hb4 : Below wr.heap.size wr w4 := ⟨hb4'.os, hb4'.tape, hb4'.output, hb4'.size, hb4'.block⟩; have hr4 := HR.out.below hb4 HR.out.lt; have HH4 := Lib.hid (HZ.out.more hb4 HZ.out.zero.lt HZ.out.rd.lt HZ.out.grown.size); have b4 : w4.cell? ⟨p, 2, none⟩ = some (.bool false) := Whole1.cell hr4.1 2; have g4 : w4.frozen? ⟨p, 2, none⟩ = false := Whole1.free hr4.1 2; clear hb4 hb4' hr4))
            all_goals
              have HI := Lib.hid (fun W => l5Int_any 0 W)
              have HH5 := Lib.hid (HH4.out.setb true)
              go_wp2_with fail
              refine (HI.out _).mono ?_
              rintro e w6 ⟨rfl, hb6⟩
              have HH6 := Lib.hid (HH5.out.more hb6 HH5.out.zero.lt HH5.out.rd.lt HH5.out.grown.size)
              clear b4 g4 hb6
              have e0 : w6.cell? ⟨w.heap.size, 0, none⟩ = some (.int .i64 0) := HH6.out.zero.cell 0
              have f0 : w6.frozen? ⟨w.heap.size, 0, none⟩ = false := HH6.out.zero.free 0
              have e1 : w6.cell? ⟨w.heap.size, 1, none⟩ = some (.int .i64 0) := HH6.out.zero.cell 1
              have f1 : w6.frozen? ⟨w.heap.size, 1, none⟩ = false := HH6.out.zero.free 1
              have e2 : w6.cell? ⟨w.heap.size, 2, none⟩ = some (.string ⟨#[]⟩) := HH6.out.zero.cell 2
              have f2 : w6.frozen? ⟨w.heap.size, 2, none⟩ = false := HH6.out.zero.free 2
              have e3 : w6.cell? ⟨w.heap.size, 3, none⟩ = some (.slice none 0 0) := HH6.out.zero.cell 3
              have f3 : w6.frozen? ⟨w.heap.size, 3, none⟩ = false := HH6.out.zero.free 3
              have e4 : w6.cell? ⟨w.heap.size, 4, none⟩ = some (.slice none 0 0) := HH6.out.zero.cell 4
              have f4 : w6.frozen? ⟨w.heap.size, 4, none⟩ = false := HH6.out.zero.free 4
              go_wp2
              exact bodyPost_ret (v := .agg #[.int .i64 1, .int .i64 0, .string ⟨#[]⟩, .slice none 0 0, .slice none 0 0]) (by simp [results, Tryd.results134, go_sem, e0, e1, e2, e3, e4]) rfl (Or.inl ⟨HMOD.out, fin_bad HH6.out hpl 1 0 ⟨#[]⟩ none none 0 0 0 0 _ _ _ _ _⟩)
          | some n =>
            have HMOD : Hid (rdIntV (restOf s i) = some (.mk 1 n ⟨#[]⟩ [] [], restOf s k)) := Lib.hid (HD.out.trans (by rw [hun]))
            have HUN := Lib.hid hun
            clear hun HD
            have HP := Lib.hid (fun W => specParseInt_yes (s.extract i k) n W hes HUN.out)
            go_wp2
            go_quiet (fail)
            go_wp2
            go_region_law (first | (go_simp; go_at_call 147; (with_reducible refine (HP.out _).mono ?_); rintro e w4 ⟨rfl, hb4'⟩; have hb4 : Below wr.heap.size wr w4 := ⟨hb4'.os, hb4'.tape, hb4'.output, hb4'.size, hb4'.block⟩; have hr4 := HR.out.below hb4 HR.out.lt; have HH4 := Lib.hid (HZ.out.more hb4 HZ.out.zero.lt HZ.out.rd.lt HZ.out.grown.size); have b4 : w4.cell? ⟨p, 2, none⟩ = some (.bool false) := Whole1.cell hr4.1 2; have g4 : w4.frozen? ⟨p, 2, none⟩ = false := Whole1.free hr4.1 2; clear hb4 hb4' hr4))
            all_goals
              have HI := Lib.hid (fun W => l5Int_any n W)
              have HH5 := Lib.hid (HH4.out.setb false)
              go_wp2_with fail
              refine (HI.out _).mono ?_
              rintro e w6 ⟨rfl, hb6⟩
              have HH6 := Lib.hid (HH5.out.more hb6 HH5.out.zero.lt HH5.out.rd.lt HH5.out.grown.size)
              clear b4 g4 hb6
              have e0 : w6.cell? ⟨w.heap.size, 0, none⟩ = some (.int .i64 0) := HH6.out.zero.cell 0
              have f0 : w6.frozen? ⟨w.heap.size, 0, none⟩ = false := HH6.out.zero.free 0
              have e1 : w6.cell? ⟨w.heap.size, 1, none⟩ = some (.int .i64 0) := HH6.out.zero.cell 1
              have f1 : w6.frozen? ⟨w.heap.size, 1, none⟩ = false := HH6.out.zero.free 1
              have e2 : w6.cell? ⟨w.heap.size, 2, none⟩ = some (.string ⟨#[]⟩) := HH6.out.zero.cell 2
              have f2 : w6.frozen? ⟨w.heap.size, 2, none⟩ = false := HH6.out.zero.free 2
              have e3 : w6.cell? ⟨w.heap.size, 3, none⟩ = some (.slice none 0 0) := HH6.out.zero.cell 3
              have f3 : w6.frozen? ⟨w.heap.size, 3, none⟩ = false := HH6.out.zero.free 3
              have e4 : w6.cell? ⟨w.heap.size, 4, none⟩ = some (.slice none 0 0) := HH6.out.zero.cell 4
              have f4 : w6.frozen? ⟨w.heap.size, 4, none⟩ = false := HH6.out.zero.free 4
              go_wp2
              exact bodyPost_ret (v := .agg #[.int .i64 1, .int .i64 n, .string ⟨#[]⟩, .slice none 0 0, .slice none 0 0]) (by simp [results, Tryd.results134, go_sem, e0, e1, e2, e3, e4]) rfl (Or.inr ⟨_, _, HMOD.out, fin_good HH6.out (OwnVa.leaf _ _ 1 n ⟨#[]⟩ (by decide)) hpl _ _ _ _ _⟩)
      · have i1 : decide ((48 : Int) ≤ (s[k].toNat : Int)) = false := decide_eq_false (by omega)
        have HD := DONE.out (fun _ => by rw [HW.out]; simp; omega)
        clear DONE h48
        have hes : (s.extract i k).size ≤ 1048576 := by rw [ByteArray.size_extract]; omega
        have hl0 : (0 : Int) ≤ (i : Int) := by omega
        have hl1 : (i : Int) ≤ (k : Int) := by omega
        have hl2 : (k : Int) ≤ (s.size : Int) := by omega
        cases hun : unItoa (s.extract i k).data.toList with
        | none =>
          have HMOD : Hid (rdIntV (restOf s i) = none) := Lib.hid (HD.out.trans (by rw [hun]))
          have HUN := Lib.hid hun
          clear hun HD
          have HP := Lib.hid (fun W => specParseInt_no (s.extract i k) W hes HUN.out)
          go_wp2
          go_quiet (fail)
          go_wp2
          go_region_law (first | (go_simp; go_at_call 147; (with_reducible refine (HP.out _).mono ?_); rintro e w4 ⟨rfl, hb4'⟩; have hb4 : Below wr.heap.size wr w4 := ⟨hb4'.os, hb4'.tape, hb4'.output, hb4'.size, hb4'.block⟩; have hr4 := HR.out.below hb4 HR.out.lt; have HH4 := Lib.hid (HZ.out.more hb4 HZ.out.zero.lt HZ.out.rd.lt HZ.out.grown.size); have b4 : w4.cell? ⟨p, 2, none⟩ = some (.bool false) := Whole1.cell hr4.1 2; have g4 : w4.frozen? ⟨p, 2, none⟩ = false := Whole1.free hr4.1 2; clear hb4 hb4' hr4))
          all_goals
            have HI := Lib.hid (fun W => l5Int_any 0 W)
            have HH5 := Lib.hid (HH4.out.setb true)
            go_wp2_with fail
            refine (HI.out _).mono ?_
            rintro e w6 ⟨rfl, hb6⟩
            have HH6 := Lib.hid (HH5.out.more hb6 HH5.out.zero.lt HH5.out.rd.lt HH5.out.grown.size)
            clear b4 g4 hb6
            have e0 : w6.cell? ⟨w.heap.size, 0, none⟩ = some (.int .i64 0) := HH6.out.zero.cell 0
            have f0 : w6.frozen? ⟨w.heap.size, 0, none⟩ = false := HH6.out.zero.free 0
            have e1 : w6.cell? ⟨w.heap.size, 1, none⟩ = some (.int .i64 0) := HH6.out.zero.cell 1
            have f1 : w6.frozen? ⟨w.heap.size, 1, none⟩ = false := HH6.out.zero.free 1
            have e2 : w6.cell? ⟨w.heap.size, 2, none⟩ = some (.string ⟨#[]⟩) := HH6.out.zero.cell 2
            have f2 : w6.frozen? ⟨w.heap.size, 2, none⟩ = false := HH6.out.zero.free 2
            have e3 : w6.cell? ⟨w.heap.size, 3, none⟩ = some (.slice none 0 0) := HH6.out.zero.cell 3
            have f3 : w6.frozen? ⟨w.heap.size, 3, none⟩ = false := HH6.out.zero.free 3
            have e4 : w6.cell? ⟨w.heap.size, 4, none⟩ = some (.slice none 0 0) := HH6.out.zero.cell 4
            have f4 : w6.frozen? ⟨w.heap.size, 4, none⟩ = false := HH6.out.zero.free 4
            go_wp2
            exact bodyPost_ret (v := .agg #[.int .i64 1, .int .i64 0, .string ⟨#[]⟩, .slice none 0 0, .slice none 0 0]) (by simp [results, Tryd.results134, go_sem, e0, e1, e2, e3, e4]) rfl (Or.inl ⟨HMOD.out, fin_bad HH6.out hpl 1 0 ⟨#[]⟩ none none 0 0 0 0 _ _ _ _ _⟩)
        | some n =>
          have HMOD : Hid (rdIntV (restOf s i) = some (.mk 1 n ⟨#[]⟩ [] [], restOf s k)) := Lib.hid (HD.out.trans (by rw [hun]))
          have HUN := Lib.hid hun
          clear hun HD
          have HP := Lib.hid (fun W => specParseInt_yes (s.extract i k) n W hes HUN.out)
          go_wp2
          go_quiet (fail)
          go_wp2
          go_region_law (first | (go_simp; go_at_call 147; (with_reducible refine (HP.out _).mono ?_); rintro e w4 ⟨rfl, hb4'⟩; have hb4 : Below wr.heap.size wr w4 := ⟨hb4'.os, hb4'.tape, hb4'.output, hb4'.size, hb4'.block⟩; have hr4 := HR.out.below hb4 HR.out.lt; have HH4 := Lib.hid (HZ.out.more hb4 HZ.out.zero.lt HZ.out.rd.lt HZ.out.grown.size); have b4 : w4.cell? ⟨p, 2, none⟩ = some (.bool false) := Whole1.cell hr4.1 2; have g4 : w4.frozen? ⟨p, 2, none⟩ = false := Whole1.free hr4.1 2; clear hb4 hb4' hr4))
          all_goals
            have HI := Lib.hid (fun W => l5Int_any n W)
            have HH5 := Lib.hid (HH4.out.setb false)
            go_wp2_with fail
            refine (HI.out _).mono ?_
            rintro e w6 ⟨rfl, hb6⟩
            have HH6 := Lib.hid (HH5.out.more hb6 HH5.out.zero.lt HH5.out.rd.lt HH5.out.grown.size)
            clear b4 g4 hb6
            have e0 : w6.cell? ⟨w.heap.size, 0, none⟩ = some (.int .i64 0) := HH6.out.zero.cell 0
            have f0 : w6.frozen? ⟨w.heap.size, 0, none⟩ = false := HH6.out.zero.free 0
            have e1 : w6.cell? ⟨w.heap.size, 1, none⟩ = some (.int .i64 0) := HH6.out.zero.cell 1
            have f1 : w6.frozen? ⟨w.heap.size, 1, none⟩ = false := HH6.out.zero.free 1
            have e2 : w6.cell? ⟨w.heap.size, 2, none⟩ = some (.string ⟨#[]⟩) := HH6.out.zero.cell 2
            have f2 : w6.frozen? ⟨w.heap.size, 2, none⟩ = false := HH6.out.zero.free 2
            have e3 : w6.cell? ⟨w.heap.size, 3, none⟩ = some (.slice none 0 0) := HH6.out.zero.cell 3
            have f3 : w6.frozen? ⟨w.heap.size, 3, none⟩ = false := HH6.out.zero.free 3
            have e4 : w6.cell? ⟨w.heap.size, 4, none⟩ = some (.slice none 0 0) := HH6.out.zero.cell 4
            have f4 : w6.frozen? ⟨w.heap.size, 4, none⟩ = false := HH6.out.zero.free 4
            go_wp2
            exact bodyPost_ret (v := .agg #[.int .i64 1, .int .i64 n, .string ⟨#[]⟩, .slice none 0 0, .slice none 0 0]) (by simp [results, Tryd.results134, go_sem, e0, e1, e2, e3, e4]) rfl (Or.inr ⟨_, _, HMOD.out, fin_good HH6.out (OwnVa.leaf _ _ 1 n ⟨#[]⟩ (by decide)) hpl _ _ _ _ _⟩)
    · have hltI : decide ((k : Int) < (s.size : Int)) = false := decide_eq_false (by omega)
      have HD := done (fun h => absurd h hlt)
      clear done
      have hes : (s.extract i k).size ≤ 1048576 := by rw [ByteArray.size_extract]; omega
      have hl0 : (0 : Int) ≤ (i : Int) := by omega
      have hl1 : (i : Int) ≤ (k : Int) := by omega
      have hl2 : (k : Int) ≤ (s.size : Int) := by omega
      cases hun : unItoa (s.extract i k).data.toList with
      | none =>
        have HMOD : Hid (rdIntV (restOf s i) = none) := Lib.hid (HD.out.trans (by rw [hun]))
        have HUN := Lib.hid hun
        clear hun HD
        have HP := Lib.hid (fun W => specParseInt_no (s.extract i k) W hes HUN.out)
        go_wp2
        go_quiet (fail)
        go_wp2
        go_region_law (first | (go_simp; go_at_call 147; (with_reducible refine (HP.out _).mono ?_); rintro e w4 ⟨rfl, hb4'⟩; have hb4 : Below wr.heap.size wr w4 := ⟨hb4'.os, hb4'.tape, hb4'.output, hb4'.size, hb4'.block⟩; have hr4 := HR.out.below hb4 HR.out.lt; have HH4 := Lib.hid (HZ.out.more hb4 HZ.out.zero.lt HZ.out.rd.lt HZ.out.grown.size); have b4 : w4.cell? ⟨p, 2, none⟩ = some (.bool false) := Whole1.cell hr4.1 2; have g4 : w4.frozen? ⟨p, 2, none⟩ = false := Whole1.free hr4.1 2; clear hb4 hb4' hr4))
        all_goals
          have HI := Lib.hid (fun W => l5Int_any 0 W)
          have HH5 := Lib.hid (HH4.out.setb true)
          go_wp2_with fail
          refine (HI.out _).mono ?_
          rintro e w6 ⟨rfl, hb6⟩
          have HH6 := Lib.hid (HH5.out.more hb6 HH5.out.zero.lt HH5.out.rd.lt HH5.out.grown.size)
          clear b4 g4 hb6
          have e0 : w6.cell? ⟨w.heap.size, 0, none⟩ = some (.int .i64 0) := HH6.out.zero.cell 0
          have f0 : w6.frozen? ⟨w.heap.size, 0, none⟩ = false := HH6.out.zero.free 0
          have e1 : w6.cell? ⟨w.heap.size, 1, none⟩ = some (.int .i64 0) := HH6.out.zero.cell 1
          have f1 : w6.frozen? ⟨w.heap.size, 1, none⟩ = false := HH6.out.zero.free 1
          have e2 : w6.cell? ⟨w.heap.size, 2, none⟩ = some (.string ⟨#[]⟩) := HH6.out.zero.cell 2
          have f2 : w6.frozen? ⟨w.heap.size, 2, none⟩ = false := HH6.out.zero.free 2
          have e3 : w6.cell? ⟨w.heap.size, 3, none⟩ = some (.slice none 0 0) := HH6.out.zero.cell 3
          have f3 : w6.frozen? ⟨w.heap.size, 3, none⟩ = false := HH6.out.zero.free 3
          have e4 : w6.cell? ⟨w.heap.size, 4, none⟩ = some (.slice none 0 0) := HH6.out.zero.cell 4
          have f4 : w6.frozen? ⟨w.heap.size, 4, none⟩ = false := HH6.out.zero.free 4
          go_wp2
          exact bodyPost_ret (v := .agg #[.int .i64 1, .int .i64 0, .string ⟨#[]⟩, .slice none 0 0, .slice none 0 0]) (by simp [results, Tryd.results134, go_sem, e0, e1, e2, e3, e4]) rfl (Or.inl ⟨HMOD.out, fin_bad HH6.out hpl 1 0 ⟨#[]⟩ none none 0 0 0 0 _ _ _ _ _⟩)
      | some n =>
        have HMOD : Hid (rdIntV (restOf s i) = some (.mk 1 n ⟨#[]⟩ [] [], restOf s k)) := Lib.hid (HD.out.trans (by rw [hun]))
        have HUN := Lib.hid hun
        clear hun HD
        have HP := Lib.hid (fun W => specParseInt_yes (s.extract i k) n W hes HUN.out)
        go_wp2
        go_quiet (fail)
        go_wp2
        go_region_law (first | (go_simp; go_at_call 147; (with_reducible refine (HP.out _).mono ?_); rintro e w4 ⟨rfl, hb4'⟩; have hb4 : Below wr.heap.size wr w4 := ⟨hb4'.os, hb4'.tape, hb4'.output, hb4'.size, hb4'.block⟩; have hr4 := HR.out.below hb4 HR.out.lt; have HH4 := Lib.hid (HZ.out.more hb4 HZ.out.zero.lt HZ.out.rd.lt HZ.out.grown.size); have b4 : w4.cell? ⟨p, 2, none⟩ = some (.bool false) := Whole1.cell hr4.1 2; have g4 : w4.frozen? ⟨p, 2, none⟩ = false := Whole1.free hr4.1 2; clear hb4 hb4' hr4))
        all_goals
          have HI := Lib.hid (fun W => l5Int_any n W)
          have HH5 := Lib.hid (HH4.out.setb false)
          go_wp2_with fail
          refine (HI.out _).mono ?_
          rintro e w6 ⟨rfl, hb6⟩
          have HH6 := Lib.hid (HH5.out.more hb6 HH5.out.zero.lt HH5.out.rd.lt HH5.out.grown.size)
          clear b4 g4 hb6
          have e0 : w6.cell? ⟨w.heap.size, 0, none⟩ = some (.int .i64 0) := HH6.out.zero.cell 0
          have f0 : w6.frozen? ⟨w.heap.size, 0, none⟩ = false := HH6.out.zero.free 0
          have e1 : w6.cell? ⟨w.heap.size, 1, none⟩ = some (.int .i64 0) := HH6.out.zero.cell 1
          have f1 : w6.frozen? ⟨w.heap.size, 1, none⟩ = false := HH6.out.zero.free 1
          have e2 : w6.cell? ⟨w.heap.size, 2, none⟩ = some (.string ⟨#[]⟩) := HH6.out.zero.cell 2
          have f2 : w6.frozen? ⟨w.heap.size, 2, none⟩ = false := HH6.out.zero.free 2
          have e3 : w6.cell? ⟨w.heap.size, 3, none⟩ = some (.slice none 0 0) := HH6.out.zero.cell 3
          have f3 : w6.frozen? ⟨w.heap.size, 3, none⟩ = false := HH6.out.zero.free 3
          have e4 : w6.cell? ⟨w.heap.size, 4, none⟩ = some (.slice none 0 0) := HH6.out.zero.cell 4
          have f4 : w6.frozen? ⟨w.heap.size, 4, none⟩ = false := HH6.out.zero.free 4
          go_wp2
          exact bodyPost_ret (v := .agg #[.int .i64 1, .int .i64 n, .string ⟨#[]⟩, .slice none 0 0, .slice none 0 0]) (by simp [results, Tryd.results134, go_sem, e0, e1, e2, e3, e4]) rfl (Or.inr ⟨_, _, HMOD.out, fin_good HH6.out (OwnVa.leaf _ _ 1 n ⟨#[]⟩ (by decide)) hpl _ _ _ _ _⟩)
end Go.Proofs.YtlmbnefoobameaaDoor.V
end

section
namespace Go.Proofs
open Go.Shelf
def Tryd.laysClone_ren : Go.Shelf.Ren := ⟨fun | 316 => 122 | n => n, fun | 9 => 9 | 3 => 3 | 4 => 4 | 37 => 22 | 0 => 0 | 127 => 176 | 5 => 5 | n => n, fun | n => n⟩
theorem Tryd.laysClone : Go.Proofs.LaysM.n316 Tryd.prog Tryd.laysClone_ren := {
  mixed := by kernel_rfl
  f316 := Tryd.func122.trans (congrArg some (by kernel_rfl))
  t0 := Tryd.underlying0
  a0 := Tryd.isAgg0
  z0 := Tryd.sizeOf0
  v0 := Tryd.zeroValue0
  t3 := Tryd.underlying3
  a3 := Tryd.isAgg3
  z3 := Tryd.sizeOf3
  v3 := Tryd.zeroValue3
  t4 := Tryd.underlying4
  a4 := Tryd.isAgg4
  z4 := Tryd.sizeOf4
  v4 := Tryd.zeroValue4
  t9 := Tryd.underlying9
  a9 := Tryd.isAgg9
  z9 := Tryd.sizeOf9
  v9 := Tryd.zeroValue9
  t37 := Tryd.underlying22
  a37 := Tryd.isAgg22
  z37 := Tryd.sizeOf22
  v37 := Tryd.zeroValue22
  t127 := Tryd.underlying176
  a127 := Tryd.isAgg176
  z127 := Tryd.sizeOf176
  v127 := Tryd.zeroValue176
  t5 := Tryd.underlying5
  a5 := Tryd.isAgg5
  z5 := Tryd.sizeOf5
  v5 := Tryd.zeroValue5
  i0 := by kernel_rfl
  i3 := by kernel_rfl
  i4 := by kernel_rfl
  i5 := by kernel_rfl
  i9 := by kernel_rfl
  i37 := by kernel_rfl
  i127 := by kernel_rfl }
end Go.Proofs

namespace Go.Proofs.YtlmbnefoobameaaDoor
open Go.RowKit

set_option maxHeartbeats 1000000 in
theorem slicesIndex_any (A : Option Addr) (c B : Nat) (ss : List ByteArray) (s : ByteArray) (w : World) (hA : StrsAt w B A ss) (hn : ss.length ≤ maxLen) :
    Calls Tryd.prog 123 #[.slice A ss.length c, .string s] w fun e w' => e = .returned (.int .i64 (idxOf ss s)) ∧ w = w' := by
  unfold maxLen at hn
  go_enter Tryd.func123, Tryd.ntmps123
  go_wp2
  go_loop [8] (fun i => ∃ k : Nat, k ≤ ss.length ∧ i = .int .i64 k ∧ ∀ j, (hj : j < ss.length) → j < k → ss[j].data.toList ≠ s.data.toList) (fun i => ss.length - (intOf i).toNat)
  case atStart => exact ⟨0, Nat.zero_le _, rfl, fun j _ h => absurd h (by omega)⟩
  case round =>
    obtain ⟨k, hk, rfl, hall⟩ := hrel
    have HA := Lib.hid hall
    clear hall
    by_cases hlt : k < ss.length
    · have hltI : (k : Int) < (ss.length : Int) := by omega
      obtain ⟨b, off, rfl, _, hcell⟩ := hA k hlt
      by_cases he : ss[k].data.toList = s.data.toList
      · have hd := Lib.hid (idxOf_at ss s k hlt he HA.out)
        have hq : (s.toList == ss[k].toList) = true := by rw [beq_iff_eq, ByteArray.toList_eq, ByteArray.toList_eq]; exact he.symm
        clear he
        go_wp2
        go_ret
        exact ⟨by rw [hd.out]; rfl, rfl⟩
      · have hq : (s.toList == ss[k].toList) = false := by rw [beq_eq_false_iff_ne, ByteArray.toList_eq, ByteArray.toList_eq]; exact fun e => he e.symm
        have HE := Lib.hid he
        clear he
        go_wp2
        go_round
        case rel =>
          refine ⟨k + 1, by omega, by go_num, fun j hj h => ?_⟩
          by_cases e : j = k
          · subst e
            exact HE.out
          · exact HA.out j hj (by omega)
        case measure => simp [intOf]; omega
    · have hltI : ¬ (k : Int) < (ss.length : Int) := by omega
      have hd := Lib.hid (idxOf_none ss s (fun j hj => HA.out j hj (by omega)))
      go_wp2
      go_ret
      exact ⟨by rw [hd.out]; rfl, rfl⟩

theorem implIndexOf_any (A : Option Addr) (c B : Nat) (ss : List ByteArray) (s : ByteArray) (w : World) (hA : StrsAt w B A ss) (hn : ss.length ≤ maxLen) :
    Calls Tryd.prog 82 #[.slice A ss.length c, .string s] w fun e w' => e = .returned (.int .i64 (idxOf ss s)) ∧ w = w' := by
  have hc := Lib.hid (slicesIndex_any A c B ss s w hA hn)
  go_enter Tryd.func82, Tryd.ntmps82
  go_wp2_with fail
  refine hc.out.mono ?_
  rintro e w1 ⟨rfl, rfl⟩
  go_wp2
  go_ret
  exact ⟨rfl, rfl⟩

set_option maxHeartbeats 1000000 in
theorem implAreAscending_any (A : Option Addr) (c B : Nat) (ss : List ByteArray) (w : World) (hA : StrsAt w B A ss) (hn : ss.length < maxLen) :
    Calls Tryd.prog 143 #[.slice A ss.length c] w (BoolDrew (ascB ss) w) := by
  unfold maxLen at hn
  go_enter Tryd.func143, Tryd.ntmps143
  go_wp2
  go_loopw [3] (fun i wr => ∃ k : Nat, k ≤ ss.length + 1 ∧ 1 ≤ k ∧ i = .int .i64 k ∧ (∀ j, (hj : j < ss.length) → 1 ≤ j → j < k → lessB (ss[j - 1]'(by omega)) ss[j] = true) ∧ ∃ n, wr = w.drewN n) (fun i _ => ss.length - (intOf i).toNat)
  case atStart => exact ⟨1, by omega, by omega, rfl, fun j _ h1 h2 => absurd h2 (by omega), 0, rfl⟩
  case round =>
    obtain ⟨k, hk, hk1, rfl, hall, n, rfl⟩ := hrel
    have HA := Lib.hid hall
    clear hall
    by_cases hlt : k < ss.length
    · have hltI : (k : Int) < (ss.length : Int) := by omega
      obtain ⟨b, off, rfl, _, hcell⟩ := hA k hlt
      obtain ⟨b', off', e', _, hcell'⟩ := hA (k - 1) (by omega)
      cases e'
      cases hles : lessB (ss[k - 1]'(by omega)) ss[k]
      · have hd := Lib.hid (ascB_no ss k hk1 hlt hles)
        have hq : (!Op.bytesLess (ss[k - 1]'(by omega)).toList ss[k].toList) = true := by
          rw [ByteArray.toList_eq, ByteArray.toList_eq, show Op.bytesLess _ _ = false from hles]
          rfl
        clear hles
        go_wp2
        go_quiet (fail)
        go_wp2
        go_ret
        exact ⟨by rw [hd.out]; rfl, _, World.drewN_drewN _ _ _⟩
      · have hq : (!Op.bytesLess (ss[k - 1]'(by omega)).toList ss[k].toList) = false := by
          rw [ByteArray.toList_eq, ByteArray.toList_eq, show Op.bytesLess _ _ = true from hles]
          rfl
        have HE := Lib.hid hles
        clear hles
        go_wp2
        go_quiet (fail)
        go_wp2
        go_roundw
        case rel =>
          refine ⟨k + 1, by omega, by omega, by go_num, fun j hj h1 h2 => ?_, _, rfl⟩
          by_cases e : j = k
          · subst e
            exact HE.out
          · exact HA.out j hj h1 (by omega)
        case measure => simp [intOf]; omega
    · have hltI : ¬ (k : Int) < (ss.length : Int) := by omega
      have hd := Lib.hid (ascB_yes ss (fun j hj h1 => HA.out j hj (by omega) (by omega)))
      go_wp2
      go_ret
      exact ⟨by rw [hd.out]; rfl, n, rfl⟩

theorem clone_any (s : ByteArray) (w : World) (hs : s.size ≤ 1048576) :
    Calls Tryd.prog 79 #[.string s] w fun e w' => e = .returned (.string s) ∧ Below w.heap.size w w' := by
  have hc := Lib.hid (Any.stringslite_Clone Tryd.laysClone s w (by omega))
  go_enter Tryd.func79, Tryd.ntmps79
  go_wp2_with fail
  refine hc.out.mono ?_
  rintro e w1 ⟨rfl, hb1⟩
  go_wp2
  go_ret
  exact ⟨rfl, hb1⟩

end Go.Proofs.YtlmbnefoobameaaDoor

namespace Go.Proofs.YtlmbnefoobameaaDoor
open Go.RowKit

theorem letter_yes (r : Int) (w : World) (h1 : 97 ≤ r) (h2 : r ≤ 122) :
    Calls Tryd.prog 138 #[.int .i32 r] w fun e w' => e = .returned (.bool true) ∧ w = w' := by
  go_enter Tryd.func138, Tryd.ntmps138
  go_wp2
  go_ret
  exact ⟨rfl, rfl⟩
theorem letter_no (r : Int) (w : World) (h : r < 97 ∨ 122 < r) :
    Calls Tryd.prog 138 #[.int .i32 r] w fun e w' => e = .returned (.bool false) ∧ w = w' := by
  by_cases h1 : 97 ≤ r
  · have h2 : ¬ r ≤ 122 := by omega
    clear h
    go_enter Tryd.func138, Tryd.ntmps138
    go_wp2
    go_ret
    exact ⟨rfl, rfl⟩
  · clear h
    go_enter Tryd.func138, Tryd.ntmps138
    go_wp2
    go_ret
    exact ⟨rfl, rfl⟩
theorem digit_yes (r : Int) (w : World) (h1 : 48 ≤ r) (h2 : r ≤ 57) :
    Calls Tryd.prog 139 #[.int .i32 r] w fun e w' => e = .returned (.bool true) ∧ w = w' := by
  go_enter Tryd.func139, Tryd.ntmps139
  go_wp2
  go_ret
  exact ⟨rfl, rfl⟩
theorem digit_no (r : Int) (w : World) (h : r < 48 ∨ 57 < r) :
    Calls Tryd.prog 139 #[.int .i32 r] w fun e w' => e = .returned (.bool false) ∧ w = w' := by
  by_cases h1 : 48 ≤ r
  · have h2 : ¬ r ≤ 57 := by omega
    clear h
    go_enter Tryd.func139, Tryd.ntmps139
    go_wp2
    go_ret
    exact ⟨rfl, rfl⟩
  · clear h
    go_enter Tryd.func139, Tryd.ntmps139
    go_wp2
    go_ret
    exact ⟨rfl, rfl⟩

theorem decode_cases (s : ByteArray) (k : Nat) (h : k < s.size) : ∃ r wd : Nat, Utf8.decode s k = (r, wd) ∧ 1 ≤ wd ∧ (r < 128 → wd = 1 ∧ r = s[k].toNat) ∧ (128 ≤ r → 128 ≤ s[k].toNat) ∧ r ≤ 2147483647 := by
  have hle := decode_le s k
  by_cases ha : s[k].toNat < 128
  · have e := decode_ascii s k h ha
    refine ⟨_, _, e, Nat.le_refl _, fun _ => ⟨rfl, rfl⟩, fun h => by omega, by omega⟩
  · have h2 := decode_high s k h (by omega)
    rcases hd : Utf8.decode s k with ⟨r, wd⟩
    rw [hd] at h2 hle
    obtain ⟨h3, h4⟩ := h2
    exact ⟨_, _, rfl, h4, fun h => by simp at h3; omega, fun _ => by omega, hle⟩

theorem nameAt_no (k : Nat) (c : UInt8) (h1 : ¬ (97 ≤ c.toNat ∧ c.toNat ≤ 122)) (h2 : ¬ 0 < k ∨ ¬ (48 ≤ c.toNat ∧ c.toNat ≤ 57)) : nameAt k c = false := by
  unfold nameAt
  rw [Bool.or_eq_false_iff]
  constructor
  · rw [Bool.and_eq_false_iff]
    simp
    omega
  · rw [Bool.and_eq_false_iff, Bool.and_eq_false_iff]
    simp
    omega
theorem isNameB_long (s : ByteArray) (h : 4 < s.size) : isNameB s = false := by
  unfold isNameB
  simp [show ¬ s.size ≤ 4 by omega]

/-- A bool is handed back; what was there stands. -/
def BoolBelow (b : Bool) (w : World) (e : Ending) (w' : World) : Prop := e = .returned (.bool b) ∧ Below w.heap.size w w'

theorem iter_below (w : World) (s : ByteArray) (k : Nat) : Below w.heap.size w (w.iter s k) := (Below.refl _ _).alloc (Nat.le_refl _) _

set_option maxHeartbeats 1000000 in
theorem implIsName_any (s : ByteArray) (w : World) (hs : s.size ≤ maxLen) :
    Calls Tryd.prog 142 #[.string s] w (BoolBelow (isNameB s) w) := by
  unfold maxLen at hs
  go_enter Tryd.func142, Tryd.ntmps142
  go_wp2
  go_loopw [2] (fun r2 w' => ∃ k : Nat, r2 = .bool false ∧ w' = w.iter s k ∧ k ≤ s.size ∧ k ≤ 4 ∧ ∀ j, j < k → nameAt j (s.data.getD j 0) = true) (fun _ w' => s.size - w'.iterPos w.heap.size)
  case atStart => exact ⟨0, rfl, rfl, Nat.zero_le _, Nat.zero_le _, fun j h => absurd h (by omega)⟩
  case round =>
    obtain ⟨k, rfl, rfl, hk, hk4, hall⟩ := hrel
    have HA := Lib.hid hall
    clear hall
    by_cases hp : k < s.size
    · obtain ⟨r, wd, hd, hwd, hlo, hhi, hr⟩ := decode_cases s k hp
      have hnx : ∀ ty, (Instr.next (.pointer (some ⟨w.heap.size, 0, none⟩)) true ty).run Tryd.prog (w.iter s k) = .ok (.tuple #[.bool true, .int .i64 k, .int .i32 r]) (w.iter s (k + wd)) := fun ty => by
        rw [run_next_any w s k ty hp, hd]
      have hget : s.data.getD k 0 = s[k] := by
        rw [Array.getD_eq_getD_getElem?, Array.getElem?_eq_getElem hp]; rfl
      have HG := Lib.hid hget
      have HD := Lib.hid hd
      clear hget hd
      by_cases h4 : 4 ≤ k
      · have i4 : (4 : Int) ≤ k := by omega
        have hno := Lib.hid (isNameB_long s (by omega))
        go_wp2
        go_ret
        exact ⟨by rw [hno.out]; rfl, iter_below _ _ _⟩
      · have i4 : ¬ (4 : Int) ≤ k := by omega
        by_cases hlet : 97 ≤ r ∧ r ≤ 122
        · have hc := hlo (by omega)
          have hct := Lib.hid hc
          have i1 : 97 ≤ (r : Int) := by omega
          have i2 : (r : Int) ≤ 122 := by omega
          have hR := Lib.hid hlet
          clear hlet hc hlo hhi
          go_wp2_with fail
          refine (letter_yes r _ i1 i2).mono ?_
          rintro e w' ⟨rfl, rfl⟩
          go_wp2
          go_roundw
          case rel =>
            refine ⟨k + wd, rfl, rfl, by have := hct.out; omega, by have := hct.out; omega, fun j hj => ?_⟩
            have h1 := hct.out
            by_cases e : j = k
            · subst e
              rw [HG.out]
              have := hR.out
              simp [nameAt, show 97 ≤ s[j].toNat by omega, show s[j].toNat ≤ 122 by omega]
            · exact HA.out j (by omega)
          case measure => simp; omega
        · have i1 : (r : Int) < 97 ∨ 122 < (r : Int) := by omega
          by_cases hk0 : k = 0
          · have hno := Lib.hid (isNameB_no s k hp (by
              rw [HG.out]
              by_cases h128 : r < 128
              · have := hlo h128
                exact nameAt_no _ _ (by omega) (.inl (by omega))
              · have := hhi (by omega)
                exact nameAt_no _ _ (by omega) (.inl (by omega))))
            have i0 : ((k : Int) == 0) = true := by rw [beq_iff_eq]; omega
            have hR := Lib.hid hlet
            have hk0' := Lib.hid hk0
            clear hlet hlo hhi hk0
            go_wp2_with fail
            refine (letter_no r _ i1).mono ?_
            rintro e w' ⟨rfl, rfl⟩
            clear i1
            go_wp2
            go_ret
            exact ⟨by rw [hno.out]; rfl, iter_below _ _ _⟩
          · have i0 : ((k : Int) == 0) = false := by rw [beq_eq_false_iff_ne]; omega
            by_cases hdig : 48 ≤ r ∧ r ≤ 57
            · have hc := hlo (by omega)
              have hct := Lib.hid hc
              have i3 : 48 ≤ (r : Int) := by omega
              have i5 : (r : Int) ≤ 57 := by omega
              have hR := Lib.hid hdig
              clear hlet hc hlo hhi hdig
              go_wp2_with fail
              refine (letter_no r _ i1).mono ?_
              rintro e w' ⟨rfl, rfl⟩
              clear i1
              go_wp2_with fail
              refine (digit_yes r _ i3 i5).mono ?_
              rintro e w' ⟨rfl, rfl⟩
              go_wp2
              go_roundw
              case rel =>
                refine ⟨k + wd, rfl, rfl, by have := hct.out; omega, by have := hct.out; omega, fun j hj => ?_⟩
                have h1 := hct.out
                by_cases e : j = k
                · subst e
                  rw [HG.out]
                  have := hR.out
                  simp [nameAt, show 48 ≤ s[j].toNat by omega, show s[j].toNat ≤ 57 by omega, show 0 < j by omega]
                · exact HA.out j (by omega)
              case measure => simp; omega
            · have i3 : (r : Int) < 48 ∨ 57 < (r : Int) := by omega
              have hno := Lib.hid (isNameB_no s k hp (by
                rw [HG.out]
                by_cases h128 : r < 128
                · have := hlo h128
                  exact nameAt_no _ _ (by omega) (.inr (by omega))
                · have := hhi (by omega)
                  exact nameAt_no _ _ (by omega) (.inr (by omega))))
              clear hlet hlo hhi hdig
              go_wp2_with fail
              refine (letter_no r _ i1).mono ?_
              rintro e w' ⟨rfl, rfl⟩
              clear i1
              go_wp2_with fail
              refine (digit_no r _ i3).mono ?_
              rintro e w' ⟨rfl, rfl⟩
              clear i3
              go_wp2
              go_ret
              exact ⟨by rw [hno.out]; rfl, iter_below _ _ _⟩
    · have hnx : ∀ ty, (Instr.next (.pointer (some ⟨w.heap.size, 0, none⟩)) true ty).run Tryd.prog (w.iter s k) = _ := fun ty => run_next_end w s k ty hp
      have hB := Lib.hid (isNameB_all s (fun j hj => HA.out j (by omega)))
      by_cases h0 : s.size = 0
      · have he : s.toList.isEmpty = true := by rw [ByteArray.toList_eq, List.isEmpty_iff, ← List.length_eq_zero_iff, Array.length_toList]; exact h0
        have H0 := Lib.hid h0
        clear h0
        go_wp2
        go_ret
        exact ⟨by rw [hB.out, H0.out]; rfl, iter_below _ _ _⟩
      · have he : s.toList.isEmpty = false := by
          rw [ByteArray.toList_eq, Bool.eq_false_iff, Ne, List.isEmpty_iff, ← List.length_eq_zero_iff, Array.length_toList]; exact h0
        have H0 := Lib.hid h0
        clear h0
        go_wp2
        go_ret
        refine ⟨?_, iter_below _ _ _⟩
        have := H0.out
        rw [hB.out]
        simp [show 1 ≤ s.size by omega, show s.size ≤ 4 by omega]

end Go.Proofs.YtlmbnefoobameaaDoor
end

section
namespace Go.Proofs
open Go.Shelf
def Tryd.laysPrefix_ren : Go.Shelf.Ren := ⟨fun | 99 => 109 | 206 => 135 | n => n, fun | 9 => 9 | 3 => 3 | 4 => 4 | n => n, fun | n => n⟩
theorem Tryd.laysPrefix : Go.Proofs.Lays.n99 Tryd.prog Tryd.laysPrefix_ren := {
  mixed := by kernel_rfl
  f99 := Tryd.func109.trans (congrArg some (by kernel_rfl))
  f206 := Tryd.func135.trans (congrArg some (by kernel_rfl))
  t3 := Tryd.underlying3
  a3 := Tryd.isAgg3
  z3 := Tryd.sizeOf3
  v3 := Tryd.zeroValue3
  t4 := Tryd.underlying4
  a4 := Tryd.isAgg4
  z4 := Tryd.sizeOf4
  v4 := Tryd.zeroValue4
  t9 := Tryd.underlying9
  a9 := Tryd.isAgg9
  z9 := Tryd.sizeOf9
  v9 := Tryd.zeroValue9 }
def Tryd.laysTrimL_ren : Go.Shelf.Ren := ⟨fun | 272 => 111 | 315 => 136 | n => n, fun | 9 => 9 | 3 => 3 | 4 => 4 | 0 => 0 | 21 => 21 | 40 => 148 | n => n, fun | n => n⟩
theorem Tryd.laysTrimL : Go.Proofs.Lays.n272 Tryd.prog Tryd.laysTrimL_ren := {
  mixed := by kernel_rfl
  f272 := Tryd.func111.trans (congrArg some (by kernel_rfl))
  f315 := Tryd.func136.trans (congrArg some (by kernel_rfl))
  t0 := Tryd.underlying0
  a0 := Tryd.isAgg0
  z0 := Tryd.sizeOf0
  v0 := Tryd.zeroValue0
  t3 := Tryd.underlying3
  a3 := Tryd.isAgg3
  z3 := Tryd.sizeOf3
  v3 := Tryd.zeroValue3
  t4 := Tryd.underlying4
  a4 := Tryd.isAgg4
  z4 := Tryd.sizeOf4
  v4 := Tryd.zeroValue4
  t9 := Tryd.underlying9
  a9 := Tryd.isAgg9
  z9 := Tryd.sizeOf9
  v9 := Tryd.zeroValue9
  t21 := Tryd.underlying21
  a21 := Tryd.isAgg21
  z21 := Tryd.sizeOf21
  v21 := Tryd.zeroValue21
  t40 := Tryd.underlying148
  a40 := Tryd.isAgg148
  z40 := Tryd.sizeOf148
  v40 := Tryd.zeroValue148 }
end Go.Proofs

namespace Go.Proofs.YtlmbnefoobameaaDoor
open Go.RowKit

/-- The reader's variables: the text in block ps, the place in block pa. -/
structure RAt (w : World) (ps pa : Nat) (s : ByteArray) (i : Nat) : Prop where
  str : Whole1 w ps 9 #[.string s]
  place : Whole1 w pa 3 #[.int .i64 (i : Int)]
  ne : ps ≠ pa
  le : i ≤ s.size
theorem RAt.lts {w : World} {ps pa i : Nat} {s : ByteArray} (h : RAt w ps pa s i) : ps < w.heap.size := Whole1.lt h.str
theorem RAt.lta {w : World} {ps pa i : Nat} {s : ByteArray} (h : RAt w ps pa s i) : pa < w.heap.size := Whole1.lt h.place
theorem RAt.below {w w' : World} {ps pa i B : Nat} {s : ByteArray} (h : RAt w ps pa s i) (hb : Below B w w') (hs : ps < B) (ha : pa < B) : RAt w' ps pa s i := ⟨h.str.below hb hs, h.place.below hb ha, h.ne, h.le⟩
theorem RAt.drewN {w : World} {ps pa i : Nat} {s : ByteArray} (h : RAt w ps pa s i) (n : Nat) : RAt (w.drewN n) ps pa s i := ⟨h.str, h.place, h.ne, h.le⟩
theorem RAt.seti {w : World} {ps pa i : Nat} {s : ByteArray} (h : RAt w ps pa s i) (j : Nat) (hj : j ≤ s.size) : RAt (w.setCell ⟨pa, 0, none⟩ (.int .i64 (j : Int))) ps pa s j :=
  ⟨(Below.heap_setCell _ _ _ _ h.ne).trans h.str, Whole1.set h.place 0 _, h.ne, hj⟩
/-- The place of the reader. -/
def placeAt (w : World) (pa : Nat) : Nat := match w.cell? ⟨pa, 0, none⟩ with | some v => (intOf v).toNat | none => 0
theorem RAt.where {w : World} {ps pa i : Nat} {s : ByteArray} (h : RAt w ps pa s i) : placeAt w pa = i := by
  have c1 : w.cell? ⟨pa, 0, none⟩ = some (.int .i64 (i : Int)) := Whole1.cell h.place 0
  unfold placeAt
  rw [c1]
  simp [intOf]

/-- The reader: three function values. -/
abbrev rdAcc (ps pa : Nat) : Value := .func (.func 108) #[] #[.pointer (some ⟨ps, 0, none⟩), .pointer (some ⟨pa, 0, none⟩)]
abbrev rdTak (ps pa : Nat) : Value := .func (.func 110) #[] #[.pointer (some ⟨pa, 0, none⟩), .pointer (some ⟨ps, 0, none⟩)]
abbrev rdEnd (ps pa : Nat) : Value := .func (.func 112) #[] #[.pointer (some ⟨pa, 0, none⟩), .pointer (some ⟨ps, 0, none⟩)]

theorem rest_extract (s : ByteArray) (i : Nat) : (s.extract i s.size).data.toList = restOf s i := by
  unfold restOf
  rw [ByteArray.data_extract, Array.toList_extract, List.extract_eq_take_drop]
  exact List.take_of_length_le (by simp)
/-- The answer v; the place is j. -/
def ReadR (w : World) (ps pa : Nat) (s : ByteArray) (v : Value) (j : Nat) (e : Ending) (w' : World) : Prop := e = .returned v ∧ RAt w' ps pa s j ∧ w.grownBy w' (some pa)

theorem prefix_eats (p l : List UInt8) : Lib.hasPrefix l p = (eats p l).isSome := by
  unfold Lib.hasPrefix eats
  cases h : p.isPrefixOf l <;> rfl
theorem eats_rest {p : ByteArray} {s : ByteArray} {i : Nat} {r : List UInt8} (hi : i ≤ s.size) (h : eats p.data.toList (restOf s i) = some r) : i + p.size ≤ s.size ∧ r = restOf s (i + p.size) := by
  have e := eats_some h
  have hl := congrArg List.length e
  have h1 : (restOf s i).length = s.size - i := by unfold restOf; simp
  have h2 : p.data.toList.length = p.size := by simp
  rw [h1, List.length_append, h2] at hl
  refine ⟨by omega, ?_⟩
  have e2 := congrArg (List.drop p.size) e
  rw [List.drop_left' h2] at e2
  rw [← e2]
  unfold restOf
  rw [List.drop_drop]

set_option maxHeartbeats 1000000 in
theorem accE_yes (ps pa i : Nat) (s p : ByteArray) (r : List UInt8) (w : World) (h : RAt w ps pa s i) (hs : s.size ≤ 1048576) (hp : eats p.data.toList (restOf s i) = some r) :
    Calls Tryd.prog 108 #[.string p, .pointer (some ⟨ps, 0, none⟩), .pointer (some ⟨pa, 0, none⟩)] w (ReadR w ps pa s (.bool true) (i + p.size)) := by
  have c0 : w.cell? ⟨ps, 0, none⟩ = some (.string s) := Whole1.cell h.str 0
  have c1 : w.cell? ⟨pa, 0, none⟩ = some (.int .i64 (i : Int)) := Whole1.cell h.place 0
  have f1 : w.frozen? ⟨pa, 0, none⟩ = false := Whole1.free h.place 0
  obtain ⟨hle, _⟩ := eats_rest h.le hp
  have hwr : IntKind.i64.wrap ((i : Int) + (p.size : Int)) = ((i + p.size : Nat) : Int) := by rw [IntKind.wrap_i64]; omega
  have hl1 : (0 : Int) ≤ (i : Int) := by omega
  have hl2 : (i : Int) ≤ (s.size : Int) := by have := h.le; omega
  have HP := Any.strings_HasPrefix Tryd.laysPrefix (s.extract i s.size) p w
  rw [rest_extract, prefix_eats, hp] at HP
  have HP := Lib.hid HP
  have HH := Lib.hid (h.seti (i + p.size) hle)
  have HO := Lib.hid (only_set (only_refl w (some pa)) 0 (.int .i64 ((i + p.size : Nat) : Int)))
  clear h hp
  go_enter Tryd.func108, Tryd.ntmps108
  go_wp2_with fail
  refine HP.out.mono ?_
  rintro e w1 ⟨rfl, rfl⟩
  go_wp2
  go_ret
  exact ⟨rfl, HH.out, HO.out⟩

set_option maxHeartbeats 1000000 in
theorem accE_no (ps pa i : Nat) (s p : ByteArray) (w : World) (h : RAt w ps pa s i) (hp : eats p.data.toList (restOf s i) = none) :
    Calls Tryd.prog 108 #[.string p, .pointer (some ⟨ps, 0, none⟩), .pointer (some ⟨pa, 0, none⟩)] w (ReadR w ps pa s (.bool false) i) := by
  have c0 : w.cell? ⟨ps, 0, none⟩ = some (.string s) := Whole1.cell h.str 0
  have c1 : w.cell? ⟨pa, 0, none⟩ = some (.int .i64 (i : Int)) := Whole1.cell h.place 0
  have hl1 : (0 : Int) ≤ (i : Int) := by omega
  have hl2 : (i : Int) ≤ (s.size : Int) := by have := h.le; omega
  have HP := Any.strings_HasPrefix Tryd.laysPrefix (s.extract i s.size) p w
  rw [rest_extract, prefix_eats, hp] at HP
  have HP := Lib.hid HP
  have HH := Lib.hid h
  clear h hp
  go_enter Tryd.func108, Tryd.ntmps108
  go_wp2_with fail
  refine HP.out.mono ?_
  rintro e w1 ⟨rfl, rfl⟩
  go_wp2
  go_ret
  exact ⟨rfl, HH.out, only_refl _ _⟩

set_option maxHeartbeats 1000000 in
theorem end_any (ps pa i : Nat) (s : ByteArray) (w : World) (h : RAt w ps pa s i) :
    Calls Tryd.prog 112 #[.pointer (some ⟨pa, 0, none⟩), .pointer (some ⟨ps, 0, none⟩)] w fun e w' => e = .returned (.bool (decide (i = s.size))) ∧ w = w' := by
  have c0 : w.cell? ⟨ps, 0, none⟩ = some (.string s) := Whole1.cell h.str 0
  have c1 : w.cell? ⟨pa, 0, none⟩ = some (.int .i64 (i : Int)) := Whole1.cell h.place 0
  by_cases he : i = s.size
  · have hq : ((i : Int) == (s.size : Int)) = true := by simp [he]
    have hd := Lib.hid (decide_eq_true he)
    clear h he
    go_enter Tryd.func112, Tryd.ntmps112
    go_wp2
    go_ret
    exact ⟨by rw [hd.out]; rfl, rfl⟩
  · have hq : ((i : Int) == (s.size : Int)) = false := by rw [beq_eq_false_iff_ne]; omega
    have hd := Lib.hid (decide_eq_false he)
    clear h he
    go_enter Tryd.func112, Tryd.ntmps112
    go_wp2
    go_ret
    exact ⟨by rw [hd.out]; rfl, rfl⟩

/-- A rune of names. -/
def nameR (r : Nat) : Bool := (decide (48 ≤ r) && decide (r ≤ 57)) || (decide (97 ≤ r) && decide (r ≤ 122))

set_option maxHeartbeats 1000000 in
theorem nameRune_any (r : Nat) (w : World) :
    Calls Tryd.prog 114 #[.int .i32 (r : Int)] w fun e w' => e = .returned (.bool (nameR r)) ∧ w = w' := by
  by_cases h1 : 97 ≤ r ∧ r ≤ 122
  · have HL := Lib.hid (letter_yes (r : Int) w (by omega) (by omega))
    have hn : Hid (nameR r = true) := Lib.hid (by unfold nameR; simp [h1])
    clear h1
    go_enter Tryd.func114, Tryd.ntmps114
    go_wp2_with fail
    refine HL.out.mono ?_
    rintro e w1 ⟨rfl, rfl⟩
    go_wp2
    go_ret
    exact ⟨by rw [hn.out]; rfl, rfl⟩
  · have HL := Lib.hid (letter_no (r : Int) w (by omega))
    by_cases h2 : 48 ≤ r ∧ r ≤ 57
    · have HD := Lib.hid (digit_yes (r : Int) w (by omega) (by omega))
      have hn : Hid (nameR r = true) := Lib.hid (by unfold nameR; simp [h2])
      clear h1 h2
      go_enter Tryd.func114, Tryd.ntmps114
      go_wp2_with fail
      refine HL.out.mono ?_
      rintro e w1 ⟨rfl, rfl⟩
      go_wp2_with fail
      refine HD.out.mono ?_
      rintro e w1 ⟨rfl, rfl⟩
      go_wp2
      go_ret
      exact ⟨by rw [hn.out]; rfl, rfl⟩
    · have HD := Lib.hid (digit_no (r : Int) w (by omega))
      have hn : Hid (nameR r = false) := Lib.hid (by unfold nameR; simp; omega)
      clear h1 h2
      go_enter Tryd.func114, Tryd.ntmps114
      go_wp2_with fail
      refine HL.out.mono ?_
      rintro e w1 ⟨rfl, rfl⟩
      go_wp2_with fail
      refine HD.out.mono ?_
      rintro e w1 ⟨rfl, rfl⟩
      go_wp2
      go_ret
      exact ⟨by rw [hn.out]; rfl, rfl⟩

theorem nameR_byte (c : UInt8) : nameR c.toNat = wordC c := rfl
theorem nameR_high (r : Nat) (h : 128 ≤ r) : nameR r = false := by
  unfold nameR
  simp
  omega
theorem wordC_high (c : UInt8) (h : 128 ≤ c.toNat) : wordC c = false := by
  rw [← nameR_byte]
  exact nameR_high _ h

/-- A rune of numbers. -/
def intR (r : Nat) : Bool := decide (r = 45) || (decide (48 ≤ r) && decide (r ≤ 57))

set_option maxHeartbeats 1000000 in
theorem intRune_any (r : Nat) (w : World) :
    Calls Tryd.prog 149 #[.int .i32 (r : Int)] w fun e w' => e = .returned (.bool (intR r)) ∧ w = w' := by
  by_cases h1 : r = 45
  · have hq : ((r : Int) == (45 : Int)) = true := by simp [h1]
    have hn : Hid (intR r = true) := Lib.hid (by unfold intR; simp [h1])
    clear h1
    go_enter Tryd.func149, Tryd.ntmps149
    go_wp2
    go_ret
    exact ⟨by rw [hn.out]; rfl, rfl⟩
  · have hq : ((r : Int) == (45 : Int)) = false := by rw [beq_eq_false_iff_ne]; omega
    by_cases h2 : 48 ≤ r ∧ r ≤ 57
    · have HD := Lib.hid (digit_yes (r : Int) w (by omega) (by omega))
      have hn : Hid (intR r = true) := Lib.hid (by unfold intR; simp [h2])
      clear h1 h2
      go_enter Tryd.func149, Tryd.ntmps149
      go_wp2_with fail
      refine HD.out.mono ?_
      rintro e w1 ⟨rfl, rfl⟩
      go_wp2
      go_ret
      exact ⟨by rw [hn.out]; rfl, rfl⟩
    · have HD := Lib.hid (digit_no (r : Int) w (by omega))
      have hn : Hid (intR r = false) := Lib.hid (by unfold intR; simp; omega)
      clear h1 h2
      go_enter Tryd.func149, Tryd.ntmps149
      go_wp2_with fail
      refine HD.out.mono ?_
      rintro e w1 ⟨rfl, rfl⟩
      go_wp2
      go_ret
      exact ⟨by rw [hn.out]; rfl, rfl⟩
theorem intR_byte (c : UInt8) : intR c.toNat = intC c := by
  unfold intR intC digC
  congr 1
  rw [Bool.eq_iff_iff]
  simp only [decide_eq_true_eq, beq_iff_eq]
  constructor
  · intro h
    exact UInt8.toNat_inj.1 (by rw [h]; rfl)
  · rintro rfl
    rfl
theorem intR_high (r : Nat) (h : 128 ≤ r) : intR r = false := by
  unfold intR
  simp
  omega
theorem pred_int (w : World) : PredAtRunes Tryd.prog 149 #[] intR w := fun W x _ _ =>
  (intRune_any x W).mono fun _ _ ⟨h1, h2⟩ => ⟨h1, 0, h2.symm⟩
theorem enters_int : ∀ args w, (callFunc 149 args).run Tryd.prog w = .ok (.enter 149 args) w := enters_of Tryd.func149 (by kernel_rfl) rfl

theorem run_end (C : UInt8 → Bool) (s : ByteArray) (k : Nat) (hk : k ≤ s.size) (hstop : ∀ h : k < s.size, C s[k] = false) : ∀ (d i : Nat), i + d = k → (∀ m, (h : m < k) → i ≤ m → C (s[m]'(by omega)) = true) →
    (restOf s i).dropWhile C = restOf s k ∧ (⟨((restOf s i).takeWhile C).toArray⟩ : ByteArray) = s.extract i k := by
  intro d
  induction d with
  | zero =>
    intro i hi _
    obtain rfl : i = k := by omega
    have e0 : s.extract i i = ⟨#[]⟩ := by
      apply ByteArray.ext
      rw [ByteArray.data_extract]
      simp
      omega
    rw [e0]
    by_cases h : i < s.size
    · rw [restOf_get s i h, List.dropWhile_cons_of_neg (by rw [hstop h]; simp), List.takeWhile_cons_of_neg (by rw [hstop h]; simp)]
      exact ⟨rfl, rfl⟩
    · rw [restOf_end s i (by omega)]
      exact ⟨rfl, rfl⟩
  | succ d ih =>
    intro i hi hall
    have h : i < s.size := by omega
    obtain ⟨h1, h2⟩ := ih (i + 1) (by omega) fun m hm him => hall m hm (by omega)
    have h3 := hall i (by omega) (Nat.le_refl _)
    rw [restOf_get s i h, List.dropWhile_cons_of_pos h3, List.takeWhile_cons_of_pos h3]
    refine ⟨h1, ?_⟩
    apply ByteArray.ext
    have h4 := congrArg (fun b : ByteArray => b.data.toList) h2
    simp only [ByteArray.data_extract, Array.toList_extract, List.extract_eq_take_drop] at h4
    apply Array.toList_inj.1
    simp only [ByteArray.data_extract, Array.toList_extract, List.extract_eq_take_drop]
    rw [List.drop_eq_getElem_cons (show i < s.data.toList.length by simpa using h), show k - i = (k - (i + 1)) + 1 by omega, List.take_succ_cons, ← h4, Array.getElem_toList]
    rfl

/-- The first byte that ends the run. -/
theorem idx_run (R : Nat → Bool) (C : UInt8 → Bool) (hC : ∀ c, R c.toNat = C c) (hH : ∀ r, 128 ≤ r → R r = false) (u : ByteArray) : ∀ (f pos : Nat), u.size ≤ pos + f → pos ≤ u.size → ∃ k, pos ≤ k ∧ k ≤ u.size ∧ (∀ m, (h : m < u.size) → pos ≤ m → m < k → C u[m] = true) ∧ (∀ h : k < u.size, C u[k] = false) ∧
    Lib.idxFuncFrom R false u f pos = if k < u.size then (k : Int) else -1 := by
  intro f
  induction f with
  | zero =>
    intro pos h1 h2
    obtain rfl : pos = u.size := by omega
    exact ⟨u.size, Nat.le_refl _, Nat.le_refl _, fun m h a b => absurd h (by omega), fun h => absurd h (Nat.lt_irrefl _), by rw [if_neg (Nat.lt_irrefl _)]; rfl⟩
  | succ f ih =>
    intro pos h1 h2
    by_cases hlt : pos < u.size
    · obtain ⟨r, wd, hd, h3, h4, h5, _⟩ := decode_cases u pos hlt
      have stop : R r = false → C u[pos] = false → ∃ k, pos ≤ k ∧ k ≤ u.size ∧ (∀ m, (h : m < u.size) → pos ≤ m → m < k → C u[m] = true) ∧ (∀ h : k < u.size, C u[k] = false) ∧
          Lib.idxFuncFrom R false u (f + 1) pos = if k < u.size then (k : Int) else -1 := fun hr hw =>
        ⟨pos, Nat.le_refl _, h2, fun m _ a b => absurd b (by omega), fun _ => hw, by rw [Lib.idxFuncFrom, if_pos hlt, if_pos hlt, hd, if_pos hr]⟩
      by_cases hr : r < 128
      · obtain ⟨rfl, rfl⟩ := h4 hr
        cases hw : C u[pos] with
        | false => exact stop (by rw [hC]; exact hw) hw
        | true =>
          obtain ⟨k, g1, g2, g3, g4, g5⟩ := ih (pos + 1) (by omega) (by omega)
          refine ⟨k, by omega, g2, fun m hm a b => ?_, g4, ?_⟩
          · by_cases e : m = pos
            · subst e
              exact hw
            · exact g3 m hm (by omega) b
          · rw [Lib.idxFuncFrom, if_pos hlt, hd, if_neg (by rw [hC, hw]; simp)]
            exact g5
      · exact stop (hH r (by omega)) (by rw [← hC]; exact hH _ (h5 (by omega)))
    · obtain rfl : pos = u.size := by omega
      exact ⟨u.size, Nat.le_refl _, Nat.le_refl _, fun m h a b => absurd h (by omega), fun h => absurd h (Nat.lt_irrefl _), by rw [Lib.idxFuncFrom_end _ _ _ _ _ hlt, if_neg hlt]⟩

theorem trim_run (R : Nat → Bool) (C : UInt8 → Bool) (hC : ∀ c, R c.toNat = C c) (hH : ∀ r, 128 ≤ r → R r = false) (s : ByteArray) (i : Nat) (hi : i ≤ s.size) : ∃ k, i ≤ k ∧ k ≤ s.size ∧ (Lib.trimLeftF R (s.extract i s.size)).size = s.size - k ∧ (restOf s i).dropWhile C = restOf s k ∧ (⟨((restOf s i).takeWhile C).toArray⟩ : ByteArray) = s.extract i k := by
  have hus : (s.extract i s.size).size = s.size - i := by rw [ByteArray.size_extract]; omega
  obtain ⟨k, _, h2, h3, h4, h5⟩ := idx_run R C hC hH (s.extract i s.size) (s.extract i s.size).size 0 (by omega) (by omega)
  have hget : ∀ m, (h : m < (s.extract i s.size).size) → (s.extract i s.size)[m] = s[i + m]'(by omega) := fun m h => by
    rw [ByteArray.getElem_extract]
  refine ⟨i + k, by omega, by omega, ?_, run_end C s (i + k) (by omega) (fun h => ?_) k i rfl (fun m h a => ?_)⟩
  · unfold Lib.trimLeftF Lib.idxFunc
    rw [h5]
    by_cases hk : k < (s.extract i s.size).size
    · rw [if_pos hk, if_neg (by omega), ByteArray.size_extract]
      omega
    · rw [if_neg hk, if_pos rfl]
      show 0 = _
      omega
  · have := h4 (by omega)
    rw [hget] at this
    exact this
  · have := h3 (m - i) (by omega) (Nat.zero_le _) (by omega)
    rw [hget] at this
    have e : i + (m - i) = m := by omega
    simp only [e] at this
    exact this

theorem rd_below {w w' : World} (h : Below w.drew.heap.size w.drew w') : Below w.heap.size w w' := (Below.refl w.heap.size w).drew.trans h
theorem RAt.wgrown {w w' : World} {ps pa i : Nat} {s : ByteArray} (_ : RAt w ps pa s i) (hb : Below w.heap.size w w') : w.grownBy w' (some pa) := only_below (only_refl w (some pa)) hb
theorem pred_name (w : World) : PredAtRunes Tryd.prog 114 #[] nameR w := fun W x _ _ =>
  (nameRune_any x W).mono fun _ _ ⟨h1, h2⟩ => ⟨h1, 0, h2.symm⟩
theorem enters_name : ∀ args w, (callFunc 114 args).run Tryd.prog w = .ok (.enter 114 args) w := enters_of Tryd.func114 (by kernel_rfl) rfl

/-- The word from i on is handed back; the reader stands behind it. -/
def RunR (C : UInt8 → Bool) (w : World) (ps pa : Nat) (s : ByteArray) (i : Nat) (e : Ending) (w' : World) : Prop :=
  ∃ k, i ≤ k ∧ ReadR w ps pa s (.string (s.extract i k)) k e w' ∧ (restOf s i).dropWhile C = restOf s k ∧ (⟨((restOf s i).takeWhile C).toArray⟩ : ByteArray) = s.extract i k

set_option maxHeartbeats 4000000 in
theorem takeRun_any (f : Nat) (ent : ∀ args w, (callFunc f args).run Tryd.prog w = .ok (.enter f args) w) (R : Nat → Bool) (C : UInt8 → Bool) (hC : ∀ c, R c.toNat = C c) (hH : ∀ r, 128 ≤ r → R r = false) (hPr : ∀ w, PredAtRunes Tryd.prog f #[] R w) (ps pa i : Nat) (s : ByteArray) (w : World) (h : RAt w ps pa s i) (hs : s.size ≤ 1048576) :
    Calls Tryd.prog 110 #[.func (.func f) #[] #[], .pointer (some ⟨pa, 0, none⟩), .pointer (some ⟨ps, 0, none⟩)] w (RunR C w ps pa s i) := by
  have c0 : w.cell? ⟨ps, 0, none⟩ = some (.string s) := Whole1.cell h.str 0
  have c1 : w.cell? ⟨pa, 0, none⟩ = some (.int .i64 (i : Int)) := Whole1.cell h.place 0
  obtain ⟨k, hik, hks, htr, hdrop, htake⟩ := trim_run R C hC hH s i h.le
  have hl1 : (0 : Int) ≤ (i : Int) := by omega
  have hl2 : (i : Int) ≤ (s.size : Int) := by have := h.le; omega
  have hl3 : (i : Int) ≤ (k : Int) := by omega
  have hl4 : (k : Int) ≤ (s.size : Int) := by omega
  have hlk : (0 : Int) ≤ (k : Int) := by omega
  have hT : Calls Tryd.prog 111 #[.string (s.extract i s.size), .func (.func f) #[] #[]] w.drew fun e w' => e = .returned (.string (Lib.trimLeftF R (s.extract i s.size))) ∧ Below w.drew.heap.size w.drew w' :=
    Any.strings_TrimLeftFunc_runes Tryd.laysTrimL f #[] ent R (s.extract i s.size) w.drew (hPr _)
  generalize Lib.trimLeftF R (s.extract i s.size) = tr at *
  have hwr : IntKind.i64.wrap ((s.size : Int) - (tr.size : Int)) = (k : Int) := by rw [IntKind.wrap_i64, htr]; omega
  have HT := Lib.hid hT
  have HD := Lib.hid (And.intro hdrop htake)
  have HH := Lib.hid h
  have hps := h.lts
  have hpa := h.lta
  clear h hT hdrop htake htr
  go_enter Tryd.func110, Tryd.ntmps110
  go_upto_region 2 with fail
  go_region_held3 (fun x : World => x.cell? ⟨ps, 0, none⟩ = some (.string s)) (first | assumption | go_keep)
    (first
      | (go_simp; go_at_call 111; (with_reducible refine HT.out.mono ?_); rintro e w1 ⟨rfl, hb'⟩; have hb := rd_below hb'; have hR := HH.out.below hb hps hpa; have d0 : w1.cell? ⟨ps, 0, none⟩ = some (.string s) := Whole1.cell hR.str 0; have d1 : w1.cell? ⟨pa, 0, none⟩ = some (.int .i64 (i : Int)) := Whole1.cell hR.place 0; have g1 : w1.frozen? ⟨pa, 0, none⟩ = false := Whole1.free hR.place 0; have HR := Lib.hid (hR.seti k hks); have HG := Lib.hid (only_set (HH.out.wgrown hb) 0 (.int .i64 (k : Int))); have x0 : (w1.setCell ⟨pa, 0, none⟩ (.int .i64 (k : Int))).cell? ⟨ps, 0, none⟩ = some (.string s) := Whole1.cell HR.out.str 0; clear hR hb hb'))
  have x1 : (w1.setCell ⟨pa, 0, none⟩ (.int .i64 (k : Int))).cell? ⟨pa, 0, none⟩ = some (.int .i64 (k : Int)) := Whole1.cell HR.out.place 0
  clear d0 d1 g1
  generalize w1.setCell ⟨pa, 0, none⟩ (.int .i64 (k : Int)) = w2 at *
  have HC := Lib.hid (clone_any (s.extract i k) w2 (by rw [ByteArray.size_extract]; omega))
  go_wp2_with fail
  refine HC.out.mono ?_
  rintro e w3 ⟨rfl, hb3⟩
  go_wp2
  go_ret
  exact ⟨k, hik, ⟨rfl, HR.out.below hb3 HR.out.lts HR.out.lta, only_below HG.out hb3⟩, HD.out⟩

theorem set3_kept (w : World) (r : Nat) (a b c : Value) (g : Nat) (hg : g ≠ r) : (((w.setCell ⟨r, 0, none⟩ a).setCell ⟨r, 1, none⟩ b).setCell ⟨r, 2, none⟩ c).heap[g]? = w.heap[g]? := by
  rw [Below.heap_setCell _ _ _ _ hg, Below.heap_setCell _ _ _ _ hg, Below.heap_setCell _ _ _ _ hg]
theorem RAt.set3 {w : World} {ps pa i r : Nat} {s : ByteArray} (h : RAt w ps pa s i) (hs : ps ≠ r) (ha : pa ≠ r) (a b c : Value) : RAt (((w.setCell ⟨r, 0, none⟩ a).setCell ⟨r, 1, none⟩ b).setCell ⟨r, 2, none⟩ c) ps pa s i :=
  ⟨(set3_kept _ _ _ _ _ _ hs).trans h.str, (set3_kept _ _ _ _ _ _ ha).trans h.place, h.ne, h.le⟩
set_option maxHeartbeats 1000000 in
theorem readerOf_any (s : ByteArray) (w : World) : Calls Tryd.prog 63 #[.string s] w fun e w' =>
    ∃ ps pa, e = .returned (.agg #[rdAcc ps pa, rdTak ps pa, rdEnd ps pa]) ∧ RAt w' ps pa s 0 ∧ Below w.heap.size w w' ∧ w.heap.size ≤ ps ∧ w.heap.size ≤ pa := by
  obtain ⟨hb0, p0, q0, r0, hs0⟩ := boxes3 w 9 87 3 #[.string s] #[.nilFunc, .nilFunc, .nilFunc] #[.int .i64 0]
  have d0 : (((w.alloc (.cells #[.string s] 9)).alloc (.cells #[.nilFunc, .nilFunc, .nilFunc] 87)).alloc (.cells #[.int .i64 0] 3)).cell? ⟨w.heap.size + 1, 0, none⟩ = some .nilFunc := q0.cell 0
  have d1 : (((w.alloc (.cells #[.string s] 9)).alloc (.cells #[.nilFunc, .nilFunc, .nilFunc] 87)).alloc (.cells #[.int .i64 0] 3)).cell? ⟨w.heap.size + 1, 1, none⟩ = some .nilFunc := q0.cell 1
  have d2 : (((w.alloc (.cells #[.string s] 9)).alloc (.cells #[.nilFunc, .nilFunc, .nilFunc] 87)).alloc (.cells #[.int .i64 0] 3)).cell? ⟨w.heap.size + 1, 2, none⟩ = some .nilFunc := q0.cell 2
  have f0 : (((w.alloc (.cells #[.string s] 9)).alloc (.cells #[.nilFunc, .nilFunc, .nilFunc] 87)).alloc (.cells #[.int .i64 0] 3)).frozen? ⟨w.heap.size + 1, 0, none⟩ = false := q0.free 0
  have f1 : (((w.alloc (.cells #[.string s] 9)).alloc (.cells #[.nilFunc, .nilFunc, .nilFunc] 87)).alloc (.cells #[.int .i64 0] 3)).frozen? ⟨w.heap.size + 1, 1, none⟩ = false := q0.free 1
  have f2 : (((w.alloc (.cells #[.string s] 9)).alloc (.cells #[.nilFunc, .nilFunc, .nilFunc] 87)).alloc (.cells #[.int .i64 0] 3)).frozen? ⟨w.heap.size + 1, 2, none⟩ = false := q0.free 2
  have hmf : ∀ (fn : Fn) (first cap : Array Value) (w : World), (Instr.makeFunc fn first cap).run Tryd.prog w = .ok (.func fn first cap) w := fun _ _ _ _ => rfl
  have HR := Lib.hid (⟨p0, r0, by omega, Nat.zero_le _⟩ : RAt _ w.heap.size (w.heap.size + 1 + 1) s 0)
  have HB := Lib.hid hb0
  clear p0 q0 r0 hb0 hs0
  go_enter Tryd.func63, Tryd.ntmps63
  go_upto_region 2 with fail
  generalize ((w.alloc (.cells #[.string s] 9)).alloc (.cells #[.nilFunc, .nilFunc, .nilFunc] 87)).alloc (.cells #[.int .i64 0] 3) = w1 at *
  go_wp2
  exact bodyPost_ret (v := .agg #[rdAcc w.heap.size (w.heap.size + 1 + 1), rdTak w.heap.size (w.heap.size + 1 + 1), rdEnd w.heap.size (w.heap.size + 1 + 1)]) (by simp [results, Tryd.results63, go_sem, d0, d1, d2]) rfl ⟨_, _, rfl, HR.out.set3 (by omega) (by omega) _ _ _, ((HB.out.setCell (by show w.heap.size ≤ w.heap.size + 1; omega) _).setCell (by show w.heap.size ≤ w.heap.size + 1; omega) _).setCell (by show w.heap.size ≤ w.heap.size + 1; omega) _, Nat.le_refl _, by omega⟩


end Go.Proofs.YtlmbnefoobameaaDoor
end

section
namespace Go.Proofs.YtlmbnefoobameaaDoor
open Go.RowKit

theorem OwnAt.leaf (w : World) (base : Nat) (k : Int) : ∃ xs vs lo hi, OwnAt w base none 0 none 0 (.mk k [] []) xs vs lo hi := by
  obtain ⟨xs, vs, lo, hi, hg⟩ := Gather.start w base []
  exact ⟨xs, vs, lo, hi, fun i h => absurd h (by simp [Ty.labels]), Nat.zero_le _, World.ownsRow_nil w base _ 1, hg, fun gl h => by cases h⟩

/-- The state at the loop's head. -/
def AtLab (w : World) (p : Nat) (s : ByteArray) (i F : Nat) (f : List UInt8 → Option (Ty × List UInt8)) (k0 : Int) (wr : World) : Prop :=
  ∃ (ls : List ByteArray) (ts : List Ty) (L A : Option Addr) (lc ac : Nat) (xs : List Value) (vs : Nat → Value) (lo hi : Nat → Nat) (j fuel : Nat),
    Making w wr p (w.heap.size + 1) w.heap.size s j false (.int .i64 k0) (.slice L ls.length lc) (.slice A ts.length ac) ∧ OwnAt wr (w.heap.size + 1 + 1) L lc A ac (.mk k0 ls ts) xs vs lo hi ∧
    ls.length = ts.length ∧ ls.length ≤ j ∧ Hid (rdLab f F (restOf s i) = glue ls ts (rdLab f fuel (restOf s j))) ∧ Hid ((restOf s j).length < fuel)

end Go.Proofs.YtlmbnefoobameaaDoor
end

section
namespace Go.Proofs.YtlmbnefoobameaaDoor
open Go.RowKit

theorem extract_rest (s : ByteArray) (i n : Nat) : (s.extract i (i + n)).toList = (restOf s i).take n := by
  rw [ByteArray.toList_eq, ByteArray.data_extract, Array.toList_extract, List.extract_eq_take_drop, Nat.add_sub_cancel_left]
  rfl
set_option maxHeartbeats 1000000 in
theorem takeE_yes (p i : Nat) (s pt : ByteArray) (r : List UInt8) (w : World) (h : RdAt w p s i false) (hs : s.size ≤ 1048576) (hp : eats pt.data.toList (restOf s i) = some r) :
    Calls Tryd.prog 102 #[.pointer (some ⟨p, 0, none⟩), .string pt] w (Read w p s (.bool true) (i + pt.size) false) := by
  obtain ⟨hle0, _⟩ := eats_rest h.2 hp
  have hq : ((s.extract i (i + pt.size)).toList == pt.toList) = true := by
    rw [extract_rest, eats_some hp, ByteArray.toList_eq, beq_iff_eq]
    exact List.take_left' (by simp)
  have c0 : w.cell? ⟨p, 0, none⟩ = some (.string s) := Whole1.cell h.1 0
  have c1 : w.cell? ⟨p, 1, none⟩ = some (.int .i64 (i : Int)) := Whole1.cell h.1 1
  have c2 : w.cell? ⟨p, 2, none⟩ = some (.bool false) := Whole1.cell h.1 2
  have f1 : w.frozen? ⟨p, 1, none⟩ = false := Whole1.free h.1 1
  have hle : decide ((s.size : Int) < (i : Int) + (pt.size : Int)) = false := decide_eq_false (by omega)
  have hwr : IntKind.i64.wrap ((i : Int) + (pt.size : Int)) = (i : Int) + (pt.size : Int) := by rw [IntKind.wrap_i64]; omega
  have hle2 : decide ((s.size : Int) < (i : Int) + (pt.size : Int)) = false := decide_eq_false (by omega)
  have htn : ((i : Int) + (pt.size : Int)).toNat = i + pt.size := by omega
  have hl1 : (0 : Int) ≤ (i : Int) := by omega
  have hl2 : (i : Int) ≤ (i : Int) + (pt.size : Int) := by omega
  have hl3 : (i : Int) + (pt.size : Int) ≤ (s.size : Int) := by omega
  have HH := Lib.hid h
  clear h hp hle
  go_enter Tryd.func102, Tryd.ntmps102
  go_wp2
  go_quiet (fail)
  go_wp2
  go_ret
  exact ⟨rfl, (HH.out.drewN _).seti (i + pt.size) (by omega), only_set (only_drewN (only_refl _ _) _) 1 _⟩

set_option maxHeartbeats 1000000 in
theorem takeE_no (p i : Nat) (s pt : ByteArray) (w : World) (h : RdAt w p s i false) (hs : s.size ≤ 1048576) (hps : pt.size ≤ 100) (hp : eats pt.data.toList (restOf s i) = none) :
    Calls Tryd.prog 102 #[.pointer (some ⟨p, 0, none⟩), .string pt] w (Read w p s (.bool false) i false) := by
  have c0 : w.cell? ⟨p, 0, none⟩ = some (.string s) := Whole1.cell h.1 0
  have c1 : w.cell? ⟨p, 1, none⟩ = some (.int .i64 (i : Int)) := Whole1.cell h.1 1
  have c2 : w.cell? ⟨p, 2, none⟩ = some (.bool false) := Whole1.cell h.1 2
  have hwr : IntKind.i64.wrap ((i : Int) + (pt.size : Int)) = (i : Int) + (pt.size : Int) := by
    have := h.2
    rw [IntKind.wrap_i64]
    omega
  have HH := Lib.hid h
  by_cases hi : i + pt.size ≤ s.size
  · have hq : ((s.extract i (i + pt.size)).toList == pt.toList) = false := by
      rw [extract_rest, ByteArray.toList_eq, beq_eq_false_iff_ne]
      intro e
      have e2 : restOf s i = pt.data.toList ++ (restOf s i).drop pt.size := by rw [← e, List.take_append_drop]
      rw [e2, eats_append] at hp
      cases hp
    have hle2 : decide ((s.size : Int) < (i : Int) + (pt.size : Int)) = false := decide_eq_false (by omega)
    have htn : ((i : Int) + (pt.size : Int)).toNat = i + pt.size := by omega
    have hl1 : (0 : Int) ≤ (i : Int) := by omega
    have hl2 : (i : Int) ≤ (i : Int) + (pt.size : Int) := by omega
    have hl3 : (i : Int) + (pt.size : Int) ≤ (s.size : Int) := by omega
    clear h hp
    go_enter Tryd.func102, Tryd.ntmps102
    go_wp2
    go_quiet (fail)
    go_wp2
    go_ret
    exact ⟨rfl, HH.out.drewN _, only_drewN (only_refl _ _) _⟩
  · have hle2 : decide ((s.size : Int) < (i : Int) + (pt.size : Int)) = true := decide_eq_true (by omega)
    clear h hp
    go_enter Tryd.func102, Tryd.ntmps102
    go_wp2
    go_quiet (fail)
    go_wp2
    go_ret
    exact ⟨rfl, HH.out.drewN _, only_drewN (only_refl _ _) _⟩

end Go.Proofs.YtlmbnefoobameaaDoor
namespace Go.Proofs.YtlmbnefoobameaaDoor.OR
open Go.RowKit
attribute [local go_sem ↓] Go.wp_at_zero Go.wp_at_succ

/-- The zero box of the result. -/
abbrev ZeroBox (w : World) (g : Nat) : Prop := Whole1 w g 50 #[.int .i64 0, .string ⟨#[]⟩, .int .i64 0, .slice none 0 0]
/-- The reader, and the zero box of the result. -/
structure Hold (w W : World) (p r : Nat) (s : ByteArray) (j : Nat) (bad : Bool) : Prop where
  rd : RdAt W p s j bad
  zero : ZeroBox W r
  grown : w.grownBy W (some p)
theorem Hold.read {w W W' : World} {p r j j' : Nat} {s : ByteArray} {bad bad' : Bool} (h : Hold w W p r s j bad) (hr : RdAt W' p s j' bad') (hg : W.grownBy W' (some p)) (hrp : r ≠ p) : Hold w W' p r s j' bad' :=
  ⟨hr, (hg.block r h.zero.lt (fun e => by injection e with e; exact hrp e)).trans h.zero, only_trans h.grown hg⟩
theorem Hold.more {w W W' : World} {p r j B : Nat} {s : ByteArray} {bad : Bool} (h : Hold w W p r s j bad) (hb : Below B W W') (hr : r < B) (hp : p < B) (hB : w.heap.size ≤ B) : Hold w W' p r s j bad :=
  ⟨h.rd.below hb hp, h.zero.below hb hr, grown_low h.grown hb hB⟩
theorem Hold.set {w W : World} {p r j q i : Nat} {s : ByteArray} {bad : Bool} (h : Hold w W p r s j bad) (v : Value) (hp : q ≠ p) (hr : q ≠ r) (hw : w.heap.size ≤ q) : Hold w (W.setCell ⟨q, i, none⟩ v) p r s j bad :=
  ⟨h.rd.block (Below.heap_setCell _ _ _ _ (fun e => hp e.symm)), (Below.heap_setCell _ _ _ _ (fun e => hr e.symm)).trans h.zero, grown_low h.grown ((Below.refl w.heap.size W).setCell (p := ⟨q, i, none⟩) hw v) (Nat.le_refl _)⟩
theorem Hold.drew {w W : World} {p r j : Nat} {s : ByteArray} {bad : Bool} (h : Hold w W p r s j bad) : Hold w W.drew p r s j bad := ⟨h.rd.drewN 1, h.zero, only_drewN h.grown 1⟩
/-- An error: some optic, the reader knows it. -/
def Bads (w : World) (p : Nat) (s : ByteArray) (e : Ending) (w' : World) : Prop :=
  ∃ x nm y A m ac j, e = .returned (.agg #[.int .i64 x, .string nm, .int .i64 y, .slice A m ac]) ∧ RdAt w' p s j true ∧ w.grownBy w' (some p)
/-- The optic t; r is still to read. -/
def Goods (w : World) (p : Nat) (s : ByteArray) (t : Ot) (r : List UInt8) (e : Ending) (w' : World) : Prop :=
  ∃ v j, e = .returned v ∧ r = restOf s j ∧ RdAt w' p s j false ∧ OwnOt w' w.heap.size v t ∧ w.grownBy w' (some p)
/-- The reading of an optic of n levels at most. -/
structure TypeOne (n : Nat) (d : Int) : Prop where
  bad : ∀ (w : World) (p i : Nat) (s : ByteArray) (b : Bool), RdAt w p s i b → s.size ≤ 1048576 → (b = true ∨ rdOt n (restOf s i) = none) → Calls Tryd.prog 62 #[.pointer (some ⟨p, 0, none⟩), .int .i64 d] w (Bads w p s)
  good : ∀ (w : World) (p i : Nat) (s : ByteArray) (t : Ot) (r : List UInt8), RdAt w p s i false → s.size ≤ 1048576 → rdOt n (restOf s i) = some (t, r) → Calls Tryd.prog 62 #[.pointer (some ⟨p, 0, none⟩), .int .i64 d] w (Goods w p s t r)
/-- A reading does what the model does. -/
def Does (x : Option (Ot × List UInt8)) (w : World) (p : Nat) (s : ByteArray) (e : Ending) (w' : World) : Prop := (x = none ∧ Bads w p s e w') ∨ ∃ t r, x = some (t, r) ∧ Goods w p s t r e w'
theorem TypeOne.of {n : Nat} {d : Int} (h0 : ∀ (w : World) (p i : Nat) (s : ByteArray), RdAt w p s i true → s.size ≤ 1048576 → Calls Tryd.prog 62 #[.pointer (some ⟨p, 0, none⟩), .int .i64 d] w (Bads w p s))
    (h1 : ∀ (w : World) (p i : Nat) (s : ByteArray), RdAt w p s i false → s.size ≤ 1048576 → Calls Tryd.prog 62 #[.pointer (some ⟨p, 0, none⟩), .int .i64 d] w (Does (rdOt n (restOf s i)) w p s)) : TypeOne n d := by
  refine ⟨fun w p i s b hr hs hb => ?_, fun w p i s t r hr hs ht => ?_⟩
  · cases b
    · refine (h1 w p i s hr hs).mono ?_
      rintro e w' (⟨_, h⟩ | ⟨t, r, h, _⟩)
      · exact h
      · rw [hb.resolve_left (by simp)] at h
        cases h
    · exact h0 w p i s hr hs
  · refine (h1 w p i s hr hs).mono ?_
    rintro e w' (⟨h, _⟩ | ⟨t', r', h, hg⟩)
    · rw [ht] at h
      cases h
    · rw [ht] at h
      cases h
      exact hg
theorem box_grown4 {w W : World} {p z : Nat} (hg : w.grownBy W (some p)) (hz : w.heap.size ≤ z) (a b c d : Value) : w.grownBy ((((W.setCell ⟨z, 0, none⟩ a).setCell ⟨z, 1, none⟩ b).setCell ⟨z, 2, none⟩ c).setCell ⟨z, 3, none⟩ d) (some p) :=
  grown_low hg ((oset4_below W z a b c d).mono hz) (Nat.le_refl _)
theorem fin_good {w W : World} {p j : Nat} {s : ByteArray} {v : Value} {t : Ot} (h : Hold w W p w.heap.size s j false) (hO : OwnOt W (w.heap.size + 1) v t) (hp : p < w.heap.size) (a b c d : Value) :
    Goods w p s t (restOf s j) (.returned v) ((((W.setCell ⟨w.heap.size, 0, none⟩ a).setCell ⟨w.heap.size, 1, none⟩ b).setCell ⟨w.heap.size, 2, none⟩ c).setCell ⟨w.heap.size, 3, none⟩ d) :=
  ⟨v, j, rfl, rfl, h.rd.block (oset4_keep _ _ _ _ _ _ _ (by omega)), (hO.set4 w.heap.size (by omega) a b c d).base (by omega), box_grown4 h.grown (Nat.le_refl _) a b c d⟩
theorem fin_bad {w W : World} {p j : Nat} {s : ByteArray} (h : Hold w W p w.heap.size s j true) (hp : p < w.heap.size) (x y : Int) (nm : ByteArray) (A : Option Addr) (m ac : Nat) (a b c d : Value) :
    Bads w p s (.returned (.agg #[.int .i64 x, .string nm, .int .i64 y, .slice A m ac])) ((((W.setCell ⟨w.heap.size, 0, none⟩ a).setCell ⟨w.heap.size, 1, none⟩ b).setCell ⟨w.heap.size, 2, none⟩ c).setCell ⟨w.heap.size, 3, none⟩ d) :=
  ⟨x, nm, y, A, m, ac, j, rfl, h.rd.block (oset4_keep _ _ _ _ _ _ _ (by omega)), box_grown4 h.grown (Nat.le_refl _) a b c d⟩

/-- A number is read. -/
def DoesN (x : Option (Va × List UInt8)) (w : World) (p : Nat) (s : ByteArray) (e : Ending) (w' : World) : Prop :=
  (x = none ∧ ∃ y j, e = .returned (.int .i64 y) ∧ RdAt w' p s j true ∧ w.grownBy w' (some p)) ∨ ∃ v r j, x = some (v, r) ∧ e = .returned (.int .i64 v.num) ∧ r = restOf s j ∧ RdAt w' p s j false ∧ w.grownBy w' (some p)
set_option maxHeartbeats 1000000 in
theorem readNumO (w : World) (p i : Nat) (s : ByteArray) (hr : RdAt w p s i false) (hs : s.size ≤ 1048576) :
    Calls Tryd.prog 105 #[.pointer (some ⟨p, 0, none⟩)] w (DoesN (rdIntV (restOf s i)) w p s) := by
  have HI := Lib.hid (V.readInt w p i s hr hs)
  clear hr
  go_enter Tryd.func105, Tryd.ntmps105
  go_wp2_with fail
  refine HI.out.mono ?_
  rintro e w1 (⟨hn, x, y, nm, L, n, lc, A, m, ac, j, rfl, hr1, hg1⟩ | ⟨t, r, hx, v, j, rfl, hrr, hr1, hO, hg1⟩)
  · obtain ⟨hb, z, _⟩ := boxes1 w1 27 #[.int .i64 x, .int .i64 y, .string nm, .slice L n lc, .slice A m ac]
    have c1 : (w1.alloc (.cells #[.int .i64 x, .int .i64 y, .string nm, .slice L n lc, .slice A m ac] 27)).cell? ⟨w1.heap.size, 1, none⟩ = some (.int .i64 y) := z.cell 1
    have HP := Lib.hid (show RdAt (w1.alloc (.cells #[.int .i64 x, .int .i64 y, .string nm, .slice L n lc, .slice A m ac] 27)) p s j true ∧ w.grownBy (w1.alloc (.cells #[.int .i64 x, .int .i64 y, .string nm, .slice L n lc, .slice A m ac] 27)) (some p) from ⟨hr1.below hb hr1.lt, only_below hg1 hb⟩)
    have HN := Lib.hid hn
    clear hr1 hg1 hb z hn
    go_wp2
    go_ret
    exact Or.inl ⟨HN.out, y, j, rfl, HP.out.1, HP.out.2⟩
  · obtain ⟨L, lc, A, ac, rfl⟩ := hO.open
    obtain ⟨hb, z, _⟩ := boxes1 w1 27 #[.int .i64 t.kind, .int .i64 t.num, .string t.name, .slice L t.labels.length lc, .slice A t.args.length ac]
    have c1 : (w1.alloc (.cells #[.int .i64 t.kind, .int .i64 t.num, .string t.name, .slice L t.labels.length lc, .slice A t.args.length ac] 27)).cell? ⟨w1.heap.size, 1, none⟩ = some (.int .i64 t.num) := z.cell 1
    have HP := Lib.hid (show RdAt (w1.alloc (.cells #[.int .i64 t.kind, .int .i64 t.num, .string t.name, .slice L t.labels.length lc, .slice A t.args.length ac] 27)) p s j false ∧ w.grownBy (w1.alloc (.cells #[.int .i64 t.kind, .int .i64 t.num, .string t.name, .slice L t.labels.length lc, .slice A t.args.length ac] 27)) (some p) from ⟨hr1.below hb hr1.lt, only_below hg1 hb⟩)
    have HX := Lib.hid (And.intro hx hrr)
    clear hr1 hg1 hb z hx hrr hO
    go_wp2
    go_ret
    exact Or.inr ⟨t, r, j, HX.out.1, rfl, HX.out.2, HP.out.1, HP.out.2⟩
set_option maxHeartbeats 1000000 in
theorem l7Named_any (k : Int) (nm : ByteArray) (w : World) : Calls Tryd.prog 103 #[.int .i64 k, .string nm] w fun e w' => e = .returned (.agg #[.int .i64 k, .string nm, .int .i64 0, .slice none 0 0]) ∧ Below w.heap.size w w' := by
  go_enter Tryd.func103, Tryd.ntmps103
  go_wp2
  exact bodyPost_ret (v := .agg #[.int .i64 k, .string nm, .int .i64 0, .slice none 0 0]) (by simp [results, Tryd.results103, go_sem]) rfl ⟨rfl, (Below.refl _ _).alloc (Nat.le_refl _) _⟩

end Go.Proofs.YtlmbnefoobameaaDoor.OR
end
