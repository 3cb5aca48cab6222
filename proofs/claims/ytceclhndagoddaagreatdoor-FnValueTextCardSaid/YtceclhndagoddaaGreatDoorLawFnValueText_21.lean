/- Lemmas: ReadVInt. -/
import Derived.Test.YtceclhndagoddaaGreatDoorLawFnValueText_18
import Derived.Test.YtceclhndagoddaaGreatDoorLawFnValueText_20
import Derived.Deep.RegionHeldLaw

namespace Go.Proofs.YtceclhndagoddaaGreatDoor
open Go.RowKit

theorem two_bytes (s : ByteArray) (i : Nat) (h : i + 1 < s.size) : (s.extract i (i + 2)).toList = [s[i]'(by omega), s[i + 1]] := by
  rw [ByteArray.toList_eq, ByteArray.data_extract, Array.toList_extract, List.extract_eq_take_drop, Nat.add_sub_cancel_left]
  have h1 := restOf_get s i (by omega)
  have h2 := restOf_get s (i + 1) h
  unfold restOf at h1 h2
  rw [h1, h2]
  rfl
theorem eats_two (a c : UInt8) (s : ByteArray) (i : Nat) : (∃ h : i + 1 < s.size, s[i] = a ∧ s[i + 1] = c ∧ eats [a, c] (restOf s i) = some (restOf s (i + 2))) ∨ (eats [a, c] (restOf s i) = none ∧ ∀ h : i + 1 < s.size, ¬ (s[i] = a ∧ s[i + 1] = c)) := by
  by_cases h : i + 1 < s.size
  · have h1 := restOf_get s i (by omega)
    have h2 := restOf_get s (i + 1) h
    by_cases hc : s[i] = a ∧ s[i + 1] = c
    · refine Or.inl ⟨h, hc.1, hc.2, ?_⟩
      rw [h1, h2, hc.1, hc.2]
      exact eats_append [a, c] _
    · refine Or.inr ⟨?_, fun _ => hc⟩
      rw [h1, h2]
      unfold eats
      rw [if_neg]
      intro e
      simp [List.isPrefixOf] at e
      exact hc ⟨e.1.symm, e.2.symm⟩
  · refine Or.inr ⟨?_, fun h' => absurd h' h⟩
    unfold eats
    rw [if_neg]
    intro e
    have e2 := List.IsPrefix.length_le (List.isPrefixOf_iff_prefix.1 e)
    rw [restOf_len] at e2
    simp at e2
    omega

set_option maxHeartbeats 1000000 in
theorem take2_yes (p i : Nat) (s : ByteArray) (a c : UInt8) (w : World) (h : RdAt w p s i false) (hs : s.size ≤ 1048576) (hi : i + 1 < s.size) (ha : s[i]'(by omega) = a) (hc : s[i + 1] = c) :
    Calls Tryz.prog 55 #[.pointer (some ⟨p, 0, none⟩), .string ⟨#[a, c]⟩] w (Read w p s (.bool true) (i + 2) false) := by
  have hq : ((s.extract i (i + 2)).toList == [a, c]) = true := by rw [two_bytes s i hi, ha, hc]; simp
  have c0 : w.cell? ⟨p, 0, none⟩ = some (.string s) := Whole1.cell h.1 0
  have c1 : w.cell? ⟨p, 1, none⟩ = some (.int .i64 (i : Int)) := Whole1.cell h.1 1
  have c2 : w.cell? ⟨p, 2, none⟩ = some (.bool false) := Whole1.cell h.1 2
  have f1 : w.frozen? ⟨p, 1, none⟩ = false := Whole1.free h.1 1
  have hle : decide ((s.size : Int) < (i : Int) + 2) = false := decide_eq_false (by omega)
  have hwr : IntKind.i64.wrap ((i : Int) + 2) = (i : Int) + 2 := by rw [IntKind.wrap_i64]; omega
  have hl1 : (0 : Int) ≤ (i : Int) := by omega
  have hl2 : (i : Int) ≤ (i : Int) + 2 := by omega
  have hl3 : (i : Int) + 2 ≤ (s.size : Int) := by omega
  have HH := Lib.hid h
  clear h ha hc
  go_enter Tryz.func55, Tryz.ntmps55
  go_wp2
  go_quiet (fail)
  go_wp2
  go_ret
  exact ⟨rfl, (HH.out.drewN _).seti (i + 2) (by omega), only_set (only_drewN (only_refl _ _) _) 1 _⟩

set_option maxHeartbeats 1000000 in
theorem take2_other (p i : Nat) (s : ByteArray) (a c : UInt8) (w : World) (h : RdAt w p s i false) (hs : s.size ≤ 1048576) (hc : ∀ h : i + 1 < s.size, ¬ (s[i]'(by omega) = a ∧ s[i + 1] = c)) :
    Calls Tryz.prog 55 #[.pointer (some ⟨p, 0, none⟩), .string ⟨#[a, c]⟩] w (Read w p s (.bool false) i false) := by
  have c0 : w.cell? ⟨p, 0, none⟩ = some (.string s) := Whole1.cell h.1 0
  have c1 : w.cell? ⟨p, 1, none⟩ = some (.int .i64 (i : Int)) := Whole1.cell h.1 1
  have c2 : w.cell? ⟨p, 2, none⟩ = some (.bool false) := Whole1.cell h.1 2
  have hwr : IntKind.i64.wrap ((i : Int) + 2) = (i : Int) + 2 := by
    have := h.2
    rw [IntKind.wrap_i64]
    omega
  have HH := Lib.hid h
  clear h
  by_cases hi : i + 1 < s.size
  · have hq : ((s.extract i (i + 2)).toList == [a, c]) = false := by
      rw [two_bytes s i hi, beq_eq_false_iff_ne]
      intro e
      simp at e
      exact hc hi e
    have hle : decide ((s.size : Int) < (i : Int) + 2) = false := decide_eq_false (by omega)
    have hl1 : (0 : Int) ≤ (i : Int) := by omega
    have hl2 : (i : Int) ≤ (i : Int) + 2 := by omega
    have hl3 : (i : Int) + 2 ≤ (s.size : Int) := by omega
    clear hc
    go_enter Tryz.func55, Tryz.ntmps55
    go_wp2
    go_quiet (fail)
    go_wp2
    go_ret
    exact ⟨rfl, HH.out.drewN _, only_drewN (only_refl _ _) _⟩
  · have hle : decide ((s.size : Int) < (i : Int) + 2) = true := decide_eq_true (by omega)
    clear hc
    go_enter Tryz.func55, Tryz.ntmps55
    go_wp2
    go_quiet (fail)
    go_wp2
    go_ret
    exact ⟨rfl, HH.out.drewN _, only_drewN (only_refl _ _) _⟩

theorem span_end (f : UInt8 → Bool) (s : ByteArray) (k : Nat) (hk : k ≤ s.size) (hstop : ∀ h : k < s.size, f s[k] = false) : ∀ (d i : Nat), i + d = k → (∀ m, (h : m < k) → i ≤ m → f (s[m]'(by omega)) = true) →
    (restOf s i).dropWhile f = restOf s k ∧ (restOf s i).takeWhile f = (s.extract i k).data.toList := by
  intro d
  induction d with
  | zero =>
    intro i hi _
    obtain rfl : i = k := by omega
    have e0 : (s.extract i i).data.toList = [] := by
      rw [ByteArray.data_extract]
      simp
    rw [e0]
    by_cases h : i < s.size
    · rw [restOf_get s i h, List.dropWhile_cons_of_neg (by rw [hstop h]; simp), List.takeWhile_cons_of_neg (by rw [hstop h]; simp)]
      exact ⟨rfl, rfl⟩
    · rw [restOf_end s i (by omega)]
      exact ⟨rfl, rfl⟩
  | succ d ih =>
    intro i hi hall
    have h : i < s.size := by omega
    obtain ⟨h1, h2⟩ := ih (i + 1) (by omega) fun m hm him => hall m hm (by omega)
    have h3 := hall i (by omega) (Nat.le_refl _)
    rw [restOf_get s i h, List.dropWhile_cons_of_pos h3, List.takeWhile_cons_of_pos h3]
    refine ⟨h1, ?_⟩
    rw [h2]
    simp only [ByteArray.data_extract, Array.toList_extract, List.extract_eq_take_drop]
    rw [List.drop_eq_getElem_cons (show i < s.data.toList.length by simpa using h), show k - i = (k - (i + 1)) + 1 by omega, List.take_succ_cons, Array.getElem_toList]
    rfl
theorem extract_cons (s : ByteArray) (i k : Nat) (h : i < s.size) (hk : i < k) : (s.extract i k).data.toList = s[i] :: (s.extract (i + 1) k).data.toList := by
  simp only [ByteArray.data_extract, Array.toList_extract, List.extract_eq_take_drop]
  rw [List.drop_eq_getElem_cons (show i < s.data.toList.length by simpa using h), show k - i = (k - (i + 1)) + 1 by omega, List.take_succ_cons, Array.getElem_toList]
  rfl
/-- What the number's text is, where its digits end at k. -/
theorem int_at (s : ByteArray) (i i0 k : Nat) (hk : k ≤ s.size) (hik : i0 ≤ k) (hstop : ∀ h : k < s.size, digC s[k] = false) (hall : ∀ m, (h : m < k) → i0 ≤ m → digC (s[m]'(by omega)) = true) (h0 : (∃ h : i < s.size, s[i] = 45 ∧ i0 = i + 1) ∨ ((¬ ∃ h : i < s.size, s[i] = 45) ∧ i0 = i)) :
    rdIntV (restOf s i) = match unItoa (s.extract i k).data.toList with | none => none | some n => some (.mk 1 n ⟨#[]⟩ [] [], restOf s k) := by
  obtain ⟨h1, h2⟩ := span_end digC s k hk hstop (k - i0) i0 (by omega) hall
  unfold rdIntV
  rcases h0 with ⟨h, hc, rfl⟩ | ⟨h, rfl⟩
  · rw [eat_hit h hc, extract_cons s i k h (by omega), hc]
    simp only [h1, h2]
    cases unItoa (45 :: (s.extract (i + 1) k).data.toList) <;> rfl
  · rw [eat_miss h]
    simp only [h1, h2]
    cases unItoa (s.extract i0 k).data.toList <;> rfl

theorem specParseInt_yes (s : ByteArray) (n : Int) (w : World) (hs : s.size ≤ 1048576) (h : unItoa s.data.toList = some n) :
    Calls Tryz.prog 83 #[.string s] w fun e w' => e = .returned (.tuple #[.int .i64 n, .bool true]) ∧ Below w.heap.size w w' := by
  refine (specParseInt_any s w hs).mono ?_
  rintro e w' ⟨⟨m, rfl, hm, h1, h2⟩ | ⟨rfl, hno⟩, hb⟩
  · have e2 := (unItoa_of hm h1 h2).symm.trans h
    injection e2 with e2
    subst e2
    exact ⟨rfl, hb⟩
  · have e2 := unItoa_some h
    exact absurd e2.1 (hno n e2.2.1 e2.2.2)
theorem specParseInt_no (s : ByteArray) (w : World) (hs : s.size ≤ 1048576) (h : unItoa s.data.toList = none) :
    Calls Tryz.prog 83 #[.string s] w fun e w' => e = .returned (.tuple #[.int .i64 0, .bool false]) ∧ Below w.heap.size w w' := by
  refine (specParseInt_any s w hs).mono ?_
  rintro e w' ⟨⟨m, rfl, hm, h1, h2⟩ | ⟨rfl, hno⟩, hb⟩
  · rw [unItoa_of hm h1 h2] at h
    cases h
  · exact ⟨rfl, hb⟩
theorem Below.from_drew {w w' : World} {n : Nat} (h : Below n w.drew w') : Below n w w' := ⟨h.os, h.tape, h.output, h.size, h.block⟩

end Go.Proofs.YtceclhndagoddaaGreatDoor
namespace Go.Proofs.YtceclhndagoddaaGreatDoor.V
open Go.RowKit
attribute [local go_sem ↓] Go.wp_at_zero Go.wp_at_succ

/-- The reader, and the zero box of the result. -/
structure Hold (w W : World) (p r : Nat) (s : ByteArray) (j : Nat) (bad : Bool) : Prop where
  rd : RdAt W p s j bad
  zero : ZeroBox W r
  grown : w.grownBy W (some p)
theorem Hold.read {w W W' : World} {p r j j' : Nat} {s : ByteArray} {bad bad' : Bool} (h : Hold w W p r s j bad) (hr : RdAt W' p s j' bad') (hg : W.grownBy W' (some p)) (hrp : r ≠ p) : Hold w W' p r s j' bad' :=
  ⟨hr, (hg.block r h.zero.lt (fun e => by injection e with e; exact hrp e)).trans h.zero, only_trans h.grown hg⟩
theorem Hold.more {w W W' : World} {p r j B : Nat} {s : ByteArray} {bad : Bool} (h : Hold w W p r s j bad) (hb : Below B W W') (hr : r < B) (hp : p < B) (hB : w.heap.size ≤ B) : Hold w W' p r s j bad :=
  ⟨h.rd.below hb hp, h.zero.below hb hr, grown_low h.grown hb hB⟩
theorem Hold.setb {w W : World} {p j : Nat} {s : ByteArray} {bad : Bool} (h : Hold w W p w.heap.size s j bad) (b : Bool) (hp : p < w.heap.size := by assumption) : Hold w (W.setCell ⟨p, 2, none⟩ (.bool b)) p w.heap.size s j b :=
  ⟨h.rd.setb b, (Below.heap_setCell _ _ _ _ (by show w.heap.size ≠ p; omega)).trans h.zero, only_set h.grown 2 _⟩
theorem fin_good {w W : World} {p j : Nat} {s : ByteArray} {v : Value} {t : Va} (h : Hold w W p w.heap.size s j false) (hO : OwnVa W (w.heap.size + 1) v t) (hp : p < w.heap.size) (a b c d e : Value) :
    Goods w p s t (restOf s j) (.returned v) (((((W.setCell ⟨w.heap.size, 0, none⟩ a).setCell ⟨w.heap.size, 1, none⟩ b).setCell ⟨w.heap.size, 2, none⟩ c).setCell ⟨w.heap.size, 3, none⟩ d).setCell ⟨w.heap.size, 4, none⟩ e) :=
  ⟨v, j, rfl, rfl, h.rd.block (set5_keep _ _ _ _ _ _ _ _ (by omega)), (hO.keep (by simp [World.setCell]) (fun g hg _ => set5_keep _ _ _ _ _ _ _ _ (by omega))).base (by omega), box_grown5 h.grown (Nat.le_refl _) a b c d e⟩
theorem fin_bad {w W : World} {p j : Nat} {s : ByteArray} (h : Hold w W p w.heap.size s j true) (hp : p < w.heap.size) (x y : Int) (nm : ByteArray) (L A : Option Addr) (n lc m ac : Nat) (a b c d e : Value) :
    Bads w p s (.returned (.agg #[.int .i64 x, .int .i64 y, .string nm, .slice L n lc, .slice A m ac])) (((((W.setCell ⟨w.heap.size, 0, none⟩ a).setCell ⟨w.heap.size, 1, none⟩ b).setCell ⟨w.heap.size, 2, none⟩ c).setCell ⟨w.heap.size, 3, none⟩ d).setCell ⟨w.heap.size, 4, none⟩ e) :=
  ⟨x, y, nm, L, n, lc, A, m, ac, j, rfl, h.rd.block (set5_keep _ _ _ _ _ _ _ _ (by omega)), box_grown5 h.grown (Nat.le_refl _) a b c d e⟩
/-- A reading does what the model does. -/
def Does (x : Option (Va × List UInt8)) (w : World) (p : Nat) (s : ByteArray) (e : Ending) (w' : World) : Prop := (x = none ∧ Bads w p s e w') ∨ ∃ t r, x = some (t, r) ∧ Goods w p s t r e w'

set_option maxHeartbeats 4000000 in
set_option maxRecDepth 100000 in
theorem readInt (w : World) (p i : Nat) (s : ByteArray) (hr : RdAt w p s i false) (hs : s.size ≤ 1048576) :
    Calls Tryz.prog 61 #[.pointer (some ⟨p, 0, none⟩)] w (Does (rdIntV (restOf s i)) w p s) := by
  have hpl := hr.lt
  have hrp : w.heap.size ≠ p := by omega
  obtain ⟨hb0, r0, hs0⟩ := boxes1 w 27 #[.int .i64 0, .int .i64 0, .string ⟨#[]⟩, .slice none 0 0, .slice none 0 0]
  have HH0 := Lib.hid (⟨hr.below hb0 hpl, r0, grown_low (only_refl w (some p)) hb0 (Nat.le_refl _)⟩ : Hold w (w.alloc (.cells #[.int .i64 0, .int .i64 0, .string ⟨#[]⟩, .slice none 0 0, .slice none 0 0] 27)) p w.heap.size s i false)
  have hil := hr.2
  have HT : Hid (∀ W, RdAt W p s i false → Calls Tryz.prog 55 #[.pointer (some ⟨p, 0, none⟩), .string ⟨#[45]⟩] W fun e w' => ∃ (b : Bool) (i0 : Nat), e = .returned (.bool b) ∧ RdAt w' p s i0 false ∧ W.grownBy w' (some p) ∧ i ≤ i0 ∧ Hid ((∃ h : i < s.size, s[i] = 45 ∧ i0 = i + 1) ∨ ((¬ ∃ h : i < s.size, s[i] = 45) ∧ i0 = i))) := Lib.hid fun W hW => by
    by_cases h : ∃ h : i < s.size, s[i] = 45
    · obtain ⟨hk, hc⟩ := h
      exact (take_yes p i s 45 W hW hs hk hc).mono fun e w' ⟨h1, h2, h3⟩ => ⟨true, i + 1, h1, h2, h3, by omega, Lib.hid (Or.inl ⟨hk, hc, rfl⟩)⟩
    · exact (take_other p i s 45 W hW hs (eat_miss h)).mono fun e w' ⟨h1, h2, h3⟩ => ⟨false, i, h1, h2, h3, by omega, Lib.hid (Or.inr ⟨h, rfl⟩)⟩
  have c1 : (w.alloc (.cells #[.int .i64 0, .int .i64 0, .string ⟨#[]⟩, .slice none 0 0, .slice none 0 0] 27)).cell? ⟨p, 1, none⟩ = some (.int .i64 (i : Int)) := Whole1.cell HH0.out.rd.1 1
  clear hr hb0 r0 hs0
  go_enter Tryz.func61, Tryz.ntmps61
  go_wp2_with fail
  clear c1
  generalize w.alloc (.cells #[.int .i64 0, .int .i64 0, .string ⟨#[]⟩, .slice none 0 0, .slice none 0 0] 27) = w0 at *
  refine (HT.out w0 HH0.out.rd).mono ?_
  rintro e w2 ⟨b, i0, rfl, hr2, hg2, hii, H0⟩
  have HH2 := Lib.hid (HH0.out.read hr2 hg2 hrp)
  clear hr2 hg2
  go_wp2
  go_loopw [] (fun wr => ∃ k : Nat, i0 ≤ k ∧ Hold w wr p w.heap.size s k false ∧ (∀ m, (h : m < s.size) → m < k → i0 ≤ m → digC s[m] = true)) (fun wr => s.size - placeOf wr p)
  case atStart => exact ⟨i0, Nat.le_refl _, HH2.out, fun m _ h1 h2 => absurd h1 (by omega)⟩
  case round =>
    obtain ⟨k, hik, hz, hall⟩ := hrel
    have c0 : wr.cell? ⟨p, 0, none⟩ = some (.string s) := Whole1.cell hz.rd.1 0
    have c1 : wr.cell? ⟨p, 1, none⟩ = some (.int .i64 (k : Int)) := Whole1.cell hz.rd.1 1
    have f1 : wr.frozen? ⟨p, 1, none⟩ = false := Whole1.free hz.rd.1 1
    have hk := hz.rd.2
    have hpl2 := Lib.hid hz.rd.place
    have HZ := Lib.hid hz
    have HA := Lib.hid hall
    have HR := Lib.hid hz.rd
    clear hz hall
    have done : (∀ h : k < s.size, digC s[k] = false) → Hid (rdIntV (restOf s i) = match unItoa (s.extract i k).data.toList with | none => none | some n => some (.mk 1 n ⟨#[]⟩ [] [], restOf s k)) := fun hst => Lib.hid (int_at s i i0 k hk hik hst (fun m hm him => HA.out m (by omega) hm him) H0.out)
    by_cases hlt : k < s.size
    · have hltI : decide ((k : Int) < (s.size : Int)) = true := decide_eq_true (by omega)
      have hk0 : (0 : Int) ≤ (k : Int) := by omega
      have hkl : (k : Int) < (s.size : Int) := by omega
      have hwr : IntKind.i64.wrap ((k : Int) + 1) = (k : Int) + 1 := by rw [IntKind.wrap_i64]; omega
      have hW : digC s[k] = (decide (48 ≤ s[k].toNat) && decide (s[k].toNat ≤ 57)) := rfl
      have HW := Lib.hid hW
      have DONE := Lib.hid done
      clear hW done
      by_cases h48 : 48 ≤ s[k].toNat
      · by_cases h57 : s[k].toNat ≤ 57
        · have i1 : decide ((48 : Int) ≤ (s[k].toNat : Int)) = true := decide_eq_true (by omega)
          have i2 : decide ((s[k].toNat : Int) ≤ 57) = true := decide_eq_true (by omega)
          have HN : Hid (∀ m, (h : m < s.size) → m < k + 1 → i0 ≤ m → digC s[m] = true) := Lib.hid fun m hm h1 h2 => by
            by_cases e : m = k
            · subst e
              rw [HW.out]
              simp [h48, h57]
            · exact HA.out m hm (by omega) h2
          clear DONE h48 h57
          go_wp2
          go_quiet (fail)
          go_wp2
          go_roundw
          case rel => exact ⟨k + 1, by omega, ⟨(HR.out.drewN _).seti (k + 1) (by omega), (Below.heap_setCell _ _ _ _ (by show w.heap.size ≠ p; exact hrp)).trans HZ.out.zero, only_set (only_drewN HZ.out.grown _) 1 _⟩, HN.out⟩
          case measure =>
            rw [hpl2.out]
            exact Nat.lt_of_le_of_lt (Nat.le_of_eq (congrArg (fun x => s.size - x) ((HR.out.drewN _).seti (k + 1) (by omega)).place)) (show s.size - (k + 1) < s.size - k by omega)
        · have i1 : decide ((48 : Int) ≤ (s[k].toNat : Int)) = true := decide_eq_true (by omega)
          have i2 : decide ((s[k].toNat : Int) ≤ 57) = false := decide_eq_false (by omega)
          have HD := DONE.out (fun _ => by rw [HW.out]; simp; omega)
          clear DONE h48 h57
          have hes : (s.extract i k).size ≤ 1048576 := by rw [ByteArray.size_extract]; omega
          have hl0 : (0 : Int) ≤ (i : Int) := by omega
          have hl1 : (i : Int) ≤ (k : Int) := by omega
          have hl2 : (k : Int) ≤ (s.size : Int) := by omega
          cases hun : unItoa (s.extract i k).data.toList with
          | none =>
            have HMOD : Hid (rdIntV (restOf s i) = none) := Lib.hid (HD.out.trans (by rw [hun]))
            have HUN := Lib.hid hun
            clear hun HD
            have HP := Lib.hid (fun W => specParseInt_no (s.extract i k) W hes HUN.out)
            go_wp2
            go_quiet (fail)
            go_wp2
            go_region_law (first | (go_simp; go_at_call 83; (with_reducible refine (HP.out _).mono ?_); rintro e w4 ⟨rfl, hb4'⟩; have hb4 : Below wr.heap.size wr w4 := ⟨hb4'.os, hb4'.tape, hb4'.output, hb4'.size, hb4'.block⟩; have hr4 := HR.out.below hb4 HR.out.lt; have HH4 := Lib.hid (HZ.out.more hb4 HZ.out.zero.lt HZ.out.rd.lt HZ.out.grown.size); have b4 : w4.cell? ⟨p, 2, none⟩ = some (.bool false) := Whole1.cell hr4.1 2; have g4 : w4.frozen? ⟨p, 2, none⟩ = false := Whole1.free hr4.1 2; clear hb4 hb4' hr4))
            all_goals
              have HI := Lib.hid (fun W => l5Int_any 0 W)
              have HH5 := Lib.hid (HH4.out.setb true)
              go_wp2_with fail
              refine (HI.out _).mono ?_
              rintro e w6 ⟨rfl, hb6⟩
              have HH6 := Lib.hid (HH5.out.more hb6 HH5.out.zero.lt HH5.out.rd.lt HH5.out.grown.size)
              clear b4 g4 hb6
              have e0 : w6.cell? ⟨w.heap.size, 0, none⟩ = some (.int .i64 0) := HH6.out.zero.cell 0
              have f0 : w6.frozen? ⟨w.heap.size, 0, none⟩ = false := HH6.out.zero.free 0
              have e1 : w6.cell? ⟨w.heap.size, 1, none⟩ = some (.int .i64 0) := HH6.out.zero.cell 1
              have f1 : w6.frozen? ⟨w.heap.size, 1, none⟩ = false := HH6.out.zero.free 1
              have e2 : w6.cell? ⟨w.heap.size, 2, none⟩ = some (.string ⟨#[]⟩) := HH6.out.zero.cell 2
              have f2 : w6.frozen? ⟨w.heap.size, 2, none⟩ = false := HH6.out.zero.free 2
              have e3 : w6.cell? ⟨w.heap.size, 3, none⟩ = some (.slice none 0 0) := HH6.out.zero.cell 3
              have f3 : w6.frozen? ⟨w.heap.size, 3, none⟩ = false := HH6.out.zero.free 3
              have e4 : w6.cell? ⟨w.heap.size, 4, none⟩ = some (.slice none 0 0) := HH6.out.zero.cell 4
              have f4 : w6.frozen? ⟨w.heap.size, 4, none⟩ = false := HH6.out.zero.free 4
              go_wp2
              exact bodyPost_ret (v := .agg #[.int .i64 1, .int .i64 0, .string ⟨#[]⟩, .slice none 0 0, .slice none 0 0]) (by simp [results, Tryz.results61, go_sem, e0, e1, e2, e3, e4]) rfl (Or.inl ⟨HMOD.out, fin_bad HH6.out hpl 1 0 ⟨#[]⟩ none none 0 0 0 0 _ _ _ _ _⟩)
          | some n =>
            have HMOD : Hid (rdIntV (restOf s i) = some (.mk 1 n ⟨#[]⟩ [] [], restOf s k)) := Lib.hid (HD.out.trans (by rw [hun]))
            have HUN := Lib.hid hun
            clear hun HD
            have HP := Lib.hid (fun W => specParseInt_yes (s.extract i k) n W hes HUN.out)
            go_wp2
            go_quiet (fail)
            go_wp2
            go_region_law (first | (go_simp; go_at_call 83; (with_reducible refine (HP.out _).mono ?_); rintro e w4 ⟨rfl, hb4'⟩; have hb4 : Below wr.heap.size wr w4 := ⟨hb4'.os, hb4'.tape, hb4'.output, hb4'.size, hb4'.block⟩; have hr4 := HR.out.below hb4 HR.out.lt; have HH4 := Lib.hid (HZ.out.more hb4 HZ.out.zero.lt HZ.out.rd.lt HZ.out.grown.size); have b4 : w4.cell? ⟨p, 2, none⟩ = some (.bool false) := Whole1.cell hr4.1 2; have g4 : w4.frozen? ⟨p, 2, none⟩ = false := Whole1.free hr4.1 2; clear hb4 hb4' hr4))
            all_goals
              have HI := Lib.hid (fun W => l5Int_any n W)
              have HH5 := Lib.hid (HH4.out.setb false)
              go_wp2_with fail
              refine (HI.out _).mono ?_
              rintro e w6 ⟨rfl, hb6⟩
              have HH6 := Lib.hid (HH5.out.more hb6 HH5.out.zero.lt HH5.out.rd.lt HH5.out.grown.size)
              clear b4 g4 hb6
              have e0 : w6.cell? ⟨w.heap.size, 0, none⟩ = some (.int .i64 0) := HH6.out.zero.cell 0
              have f0 : w6.frozen? ⟨w.heap.size, 0, none⟩ = false := HH6.out.zero.free 0
              have e1 : w6.cell? ⟨w.heap.size, 1, none⟩ = some (.int .i64 0) := HH6.out.zero.cell 1
              have f1 : w6.frozen? ⟨w.heap.size, 1, none⟩ = false := HH6.out.zero.free 1
              have e2 : w6.cell? ⟨w.heap.size, 2, none⟩ = some (.string ⟨#[]⟩) := HH6.out.zero.cell 2
              have f2 : w6.frozen? ⟨w.heap.size, 2, none⟩ = false := HH6.out.zero.free 2
              have e3 : w6.cell? ⟨w.heap.size, 3, none⟩ = some (.slice none 0 0) := HH6.out.zero.cell 3
              have f3 : w6.frozen? ⟨w.heap.size, 3, none⟩ = false := HH6.out.zero.free 3
              have e4 : w6.cell? ⟨w.heap.size, 4, none⟩ = some (.slice none 0 0) := HH6.out.zero.cell 4
              have f4 : w6.frozen? ⟨w.heap.size, 4, none⟩ = false := HH6.out.zero.free 4
              go_wp2
              exact bodyPost_ret (v := .agg #[.int .i64 1, .int .i64 n, .string ⟨#[]⟩, .slice none 0 0, .slice none 0 0]) (by simp [results, Tryz.results61, go_sem, e0, e1, e2, e3, e4]) rfl (Or.inr ⟨_, _, HMOD.out, fin_good HH6.out (OwnVa.leaf _ _ 1 n ⟨#[]⟩ (by decide)) hpl _ _ _ _ _⟩)
      · have i1 : decide ((48 : Int) ≤ (s[k].toNat : Int)) = false := decide_eq_false (by omega)
        have HD := DONE.out (fun _ => by rw [HW.out]; simp; omega)
        clear DONE h48
        have hes : (s.extract i k).size ≤ 1048576 := by rw [ByteArray.size_extract]; omega
        have hl0 : (0 : Int) ≤ (i : Int) := by omega
        have hl1 : (i : Int) ≤ (k : Int) := by omega
        have hl2 : (k : Int) ≤ (s.size : Int) := by omega
        cases hun : unItoa (s.extract i k).data.toList with
        | none =>
          have HMOD : Hid (rdIntV (restOf s i) = none) := Lib.hid (HD.out.trans (by rw [hun]))
          have HUN := Lib.hid hun
          clear hun HD
          have HP := Lib.hid (fun W => specParseInt_no (s.extract i k) W hes HUN.out)
          go_wp2
          go_quiet (fail)
          go_wp2
          go_region_law (first | (go_simp; go_at_call 83; (with_reducible refine (HP.out _).mono ?_); rintro e w4 ⟨rfl, hb4'⟩; have hb4 : Below wr.heap.size wr w4 := ⟨hb4'.os, hb4'.tape, hb4'.output, hb4'.size, hb4'.block⟩; have hr4 := HR.out.below hb4 HR.out.lt; have HH4 := Lib.hid (HZ.out.more hb4 HZ.out.zero.lt HZ.out.rd.lt HZ.out.grown.size); have b4 : w4.cell? ⟨p, 2, none⟩ = some (.bool false) := Whole1.cell hr4.1 2; have g4 : w4.frozen? ⟨p, 2, none⟩ = false := Whole1.free hr4.1 2; clear hb4 hb4' hr4))
          all_goals
            have HI := Lib.hid (fun W => l5Int_any 0 W)
            have HH5 := Lib.hid (HH4.out.setb true)
            go_wp2_with fail
            refine (HI.out _).mono ?_
            rintro e w6 ⟨rfl, hb6⟩
            have HH6 := Lib.hid (HH5.out.more hb6 HH5.out.zero.lt HH5.out.rd.lt HH5.out.grown.size)
            clear b4 g4 hb6
            have e0 : w6.cell? ⟨w.heap.size, 0, none⟩ = some (.int .i64 0) := HH6.out.zero.cell 0
            have f0 : w6.frozen? ⟨w.heap.size, 0, none⟩ = false := HH6.out.zero.free 0
            have e1 : w6.cell? ⟨w.heap.size, 1, none⟩ = some (.int .i64 0) := HH6.out.zero.cell 1
            have f1 : w6.frozen? ⟨w.heap.size, 1, none⟩ = false := HH6.out.zero.free 1
            have e2 : w6.cell? ⟨w.heap.size, 2, none⟩ = some (.string ⟨#[]⟩) := HH6.out.zero.cell 2
            have f2 : w6.frozen? ⟨w.heap.size, 2, none⟩ = false := HH6.out.zero.free 2
            have e3 : w6.cell? ⟨w.heap.size, 3, none⟩ = some (.slice none 0 0) := HH6.out.zero.cell 3
            have f3 : w6.frozen? ⟨w.heap.size, 3, none⟩ = false := HH6.out.zero.free 3
            have e4 : w6.cell? ⟨w.heap.size, 4, none⟩ = some (.slice none 0 0) := HH6.out.zero.cell 4
            have f4 : w6.frozen? ⟨w.heap.size, 4, none⟩ = false := HH6.out.zero.free 4
            go_wp2
            exact bodyPost_ret (v := .agg #[.int .i64 1, .int .i64 0, .string ⟨#[]⟩, .slice none 0 0, .slice none 0 0]) (by simp [results, Tryz.results61, go_sem, e0, e1, e2, e3, e4]) rfl (Or.inl ⟨HMOD.out, fin_bad HH6.out hpl 1 0 ⟨#[]⟩ none none 0 0 0 0 _ _ _ _ _⟩)
        | some n =>
          have HMOD : Hid (rdIntV (restOf s i) = some (.mk 1 n ⟨#[]⟩ [] [], restOf s k)) := Lib.hid (HD.out.trans (by rw [hun]))
          have HUN := Lib.hid hun
          clear hun HD
          have HP := Lib.hid (fun W => specParseInt_yes (s.extract i k) n W hes HUN.out)
          go_wp2
          go_quiet (fail)
          go_wp2
          go_region_law (first | (go_simp; go_at_call 83; (with_reducible refine (HP.out _).mono ?_); rintro e w4 ⟨rfl, hb4'⟩; have hb4 : Below wr.heap.size wr w4 := ⟨hb4'.os, hb4'.tape, hb4'.output, hb4'.size, hb4'.block⟩; have hr4 := HR.out.below hb4 HR.out.lt; have HH4 := Lib.hid (HZ.out.more hb4 HZ.out.zero.lt HZ.out.rd.lt HZ.out.grown.size); have b4 : w4.cell? ⟨p, 2, none⟩ = some (.bool false) := Whole1.cell hr4.1 2; have g4 : w4.frozen? ⟨p, 2, none⟩ = false := Whole1.free hr4.1 2; clear hb4 hb4' hr4))
          all_goals
            have HI := Lib.hid (fun W => l5Int_any n W)
            have HH5 := Lib.hid (HH4.out.setb false)
            go_wp2_with fail
            refine (HI.out _).mono ?_
            rintro e w6 ⟨rfl, hb6⟩
            have HH6 := Lib.hid (HH5.out.more hb6 HH5.out.zero.lt HH5.out.rd.lt HH5.out.grown.size)
            clear b4 g4 hb6
            have e0 : w6.cell? ⟨w.heap.size, 0, none⟩ = some (.int .i64 0) := HH6.out.zero.cell 0
            have f0 : w6.frozen? ⟨w.heap.size, 0, none⟩ = false := HH6.out.zero.free 0
            have e1 : w6.cell? ⟨w.heap.size, 1, none⟩ = some (.int .i64 0) := HH6.out.zero.cell 1
            have f1 : w6.frozen? ⟨w.heap.size, 1, none⟩ = false := HH6.out.zero.free 1
            have e2 : w6.cell? ⟨w.heap.size, 2, none⟩ = some (.string ⟨#[]⟩) := HH6.out.zero.cell 2
            have f2 : w6.frozen? ⟨w.heap.size, 2, none⟩ = false := HH6.out.zero.free 2
            have e3 : w6.cell? ⟨w.heap.size, 3, none⟩ = some (.slice none 0 0) := HH6.out.zero.cell 3
            have f3 : w6.frozen? ⟨w.heap.size, 3, none⟩ = false := HH6.out.zero.free 3
            have e4 : w6.cell? ⟨w.heap.size, 4, none⟩ = some (.slice none 0 0) := HH6.out.zero.cell 4
            have f4 : w6.frozen? ⟨w.heap.size, 4, none⟩ = false := HH6.out.zero.free 4
            go_wp2
            exact bodyPost_ret (v := .agg #[.int .i64 1, .int .i64 n, .string ⟨#[]⟩, .slice none 0 0, .slice none 0 0]) (by simp [results, Tryz.results61, go_sem, e0, e1, e2, e3, e4]) rfl (Or.inr ⟨_, _, HMOD.out, fin_good HH6.out (OwnVa.leaf _ _ 1 n ⟨#[]⟩ (by decide)) hpl _ _ _ _ _⟩)
    · have hltI : decide ((k : Int) < (s.size : Int)) = false := decide_eq_false (by omega)
      have HD := done (fun h => absurd h hlt)
      clear done
      have hes : (s.extract i k).size ≤ 1048576 := by rw [ByteArray.size_extract]; omega
      have hl0 : (0 : Int) ≤ (i : Int) := by omega
      have hl1 : (i : Int) ≤ (k : Int) := by omega
      have hl2 : (k : Int) ≤ (s.size : Int) := by omega
      cases hun : unItoa (s.extract i k).data.toList with
      | none =>
        have HMOD : Hid (rdIntV (restOf s i) = none) := Lib.hid (HD.out.trans (by rw [hun]))
        have HUN := Lib.hid hun
        clear hun HD
        have HP := Lib.hid (fun W => specParseInt_no (s.extract i k) W hes HUN.out)
        go_wp2
        go_quiet (fail)
        go_wp2
        go_region_law (first | (go_simp; go_at_call 83; (with_reducible refine (HP.out _).mono ?_); rintro e w4 ⟨rfl, hb4'⟩; have hb4 : Below wr.heap.size wr w4 := ⟨hb4'.os, hb4'.tape, hb4'.output, hb4'.size, hb4'.block⟩; have hr4 := HR.out.below hb4 HR.out.lt; have HH4 := Lib.hid (HZ.out.more hb4 HZ.out.zero.lt HZ.out.rd.lt HZ.out.grown.size); have b4 : w4.cell? ⟨p, 2, none⟩ = some (.bool false) := Whole1.cell hr4.1 2; have g4 : w4.frozen? ⟨p, 2, none⟩ = false := Whole1.free hr4.1 2; clear hb4 hb4' hr4))
        all_goals
          have HI := Lib.hid (fun W => l5Int_any 0 W)
          have HH5 := Lib.hid (HH4.out.setb true)
          go_wp2_with fail
          refine (HI.out _).mono ?_
          rintro e w6 ⟨rfl, hb6⟩
          have HH6 := Lib.hid (HH5.out.more hb6 HH5.out.zero.lt HH5.out.rd.lt HH5.out.grown.size)
          clear b4 g4 hb6
          have e0 : w6.cell? ⟨w.heap.size, 0, none⟩ = some (.int .i64 0) := HH6.out.zero.cell 0
          have f0 : w6.frozen? ⟨w.heap.size, 0, none⟩ = false := HH6.out.zero.free 0
          have e1 : w6.cell? ⟨w.heap.size, 1, none⟩ = some (.int .i64 0) := HH6.out.zero.cell 1
          have f1 : w6.frozen? ⟨w.heap.size, 1, none⟩ = false := HH6.out.zero.free 1
          have e2 : w6.cell? ⟨w.heap.size, 2, none⟩ = some (.string ⟨#[]⟩) := HH6.out.zero.cell 2
          have f2 : w6.frozen? ⟨w.heap.size, 2, none⟩ = false := HH6.out.zero.free 2
          have e3 : w6.cell? ⟨w.heap.size, 3, none⟩ = some (.slice none 0 0) := HH6.out.zero.cell 3
          have f3 : w6.frozen? ⟨w.heap.size, 3, none⟩ = false := HH6.out.zero.free 3
          have e4 : w6.cell? ⟨w.heap.size, 4, none⟩ = some (.slice none 0 0) := HH6.out.zero.cell 4
          have f4 : w6.frozen? ⟨w.heap.size, 4, none⟩ = false := HH6.out.zero.free 4
          go_wp2
          exact bodyPost_ret (v := .agg #[.int .i64 1, .int .i64 0, .string ⟨#[]⟩, .slice none 0 0, .slice none 0 0]) (by simp [results, Tryz.results61, go_sem, e0, e1, e2, e3, e4]) rfl (Or.inl ⟨HMOD.out, fin_bad HH6.out hpl 1 0 ⟨#[]⟩ none none 0 0 0 0 _ _ _ _ _⟩)
      | some n =>
        have HMOD : Hid (rdIntV (restOf s i) = some (.mk 1 n ⟨#[]⟩ [] [], restOf s k)) := Lib.hid (HD.out.trans (by rw [hun]))
        have HUN := Lib.hid hun
        clear hun HD
        have HP := Lib.hid (fun W => specParseInt_yes (s.extract i k) n W hes HUN.out)
        go_wp2
        go_quiet (fail)
        go_wp2
        go_region_law (first | (go_simp; go_at_call 83; (with_reducible refine (HP.out _).mono ?_); rintro e w4 ⟨rfl, hb4'⟩; have hb4 : Below wr.heap.size wr w4 := ⟨hb4'.os, hb4'.tape, hb4'.output, hb4'.size, hb4'.block⟩; have hr4 := HR.out.below hb4 HR.out.lt; have HH4 := Lib.hid (HZ.out.more hb4 HZ.out.zero.lt HZ.out.rd.lt HZ.out.grown.size); have b4 : w4.cell? ⟨p, 2, none⟩ = some (.bool false) := Whole1.cell hr4.1 2; have g4 : w4.frozen? ⟨p, 2, none⟩ = false := Whole1.free hr4.1 2; clear hb4 hb4' hr4))
        all_goals
          have HI := Lib.hid (fun W => l5Int_any n W)
          have HH5 := Lib.hid (HH4.out.setb false)
          go_wp2_with fail
          refine (HI.out _).mono ?_
          rintro e w6 ⟨rfl, hb6⟩
          have HH6 := Lib.hid (HH5.out.more hb6 HH5.out.zero.lt HH5.out.rd.lt HH5.out.grown.size)
          clear b4 g4 hb6
          have e0 : w6.cell? ⟨w.heap.size, 0, none⟩ = some (.int .i64 0) := HH6.out.zero.cell 0
          have f0 : w6.frozen? ⟨w.heap.size, 0, none⟩ = false := HH6.out.zero.free 0
          have e1 : w6.cell? ⟨w.heap.size, 1, none⟩ = some (.int .i64 0) := HH6.out.zero.cell 1
          have f1 : w6.frozen? ⟨w.heap.size, 1, none⟩ = false := HH6.out.zero.free 1
          have e2 : w6.cell? ⟨w.heap.size, 2, none⟩ = some (.string ⟨#[]⟩) := HH6.out.zero.cell 2
          have f2 : w6.frozen? ⟨w.heap.size, 2, none⟩ = false := HH6.out.zero.free 2
          have e3 : w6.cell? ⟨w.heap.size, 3, none⟩ = some (.slice none 0 0) := HH6.out.zero.cell 3
          have f3 : w6.frozen? ⟨w.heap.size, 3, none⟩ = false := HH6.out.zero.free 3
          have e4 : w6.cell? ⟨w.heap.size, 4, none⟩ = some (.slice none 0 0) := HH6.out.zero.cell 4
          have f4 : w6.frozen? ⟨w.heap.size, 4, none⟩ = false := HH6.out.zero.free 4
          go_wp2
          exact bodyPost_ret (v := .agg #[.int .i64 1, .int .i64 n, .string ⟨#[]⟩, .slice none 0 0, .slice none 0 0]) (by simp [results, Tryz.results61, go_sem, e0, e1, e2, e3, e4]) rfl (Or.inr ⟨_, _, HMOD.out, fin_good HH6.out (OwnVa.leaf _ _ 1 n ⟨#[]⟩ (by decide)) hpl _ _ _ _ _⟩)
end Go.Proofs.YtceclhndagoddaaGreatDoor.V
