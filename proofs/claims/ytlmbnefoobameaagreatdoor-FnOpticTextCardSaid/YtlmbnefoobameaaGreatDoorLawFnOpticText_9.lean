/- Lemmas: ReadStep. -/
import Derived.Test.YtlmbnefoobameaaGreatDoorLawFnOpticText_7
import Derived.BigGuard

namespace Go.Proofs.YtlmbnefoobameaaGreatDoor
open Go.RowKit

/-- The reader lies in block p: its text, its place, whether it met an error. -/
def RdAt (w : World) (p : Nat) (s : ByteArray) (i : Nat) (bad : Bool) : Prop := Whole1 w p 52 #[.string s, .int .i64 (i : Int), .bool bad] ∧ i ≤ s.size
theorem RdAt.lt {w : World} {p i : Nat} {s : ByteArray} {bad : Bool} (h : RdAt w p s i bad) : p < w.heap.size := Whole1.lt h.1
theorem RdAt.block {w w' : World} {p i : Nat} {s : ByteArray} {bad : Bool} (h : RdAt w p s i bad) (hb : w'.heap[p]? = w.heap[p]?) : RdAt w' p s i bad := ⟨hb.trans h.1, h.2⟩
/-- What is still to read. -/
def restOf (s : ByteArray) (i : Nat) : List UInt8 := s.data.toList.drop i
theorem restOf_get (s : ByteArray) (i : Nat) (h : i < s.size) : restOf s i = s[i] :: restOf s (i + 1) := by
  have h1 : i < s.data.toList.length := by simpa using h
  unfold restOf
  rw [List.drop_eq_getElem_cons h1, Array.getElem_toList]
  rfl
theorem restOf_end (s : ByteArray) (i : Nat) (h : s.size ≤ i) : restOf s i = [] := List.drop_eq_nil_of_le (by simpa using h)
theorem restOf_len (s : ByteArray) (i : Nat) : (restOf s i).length = s.size - i := by simp [restOf]
theorem one_byte (s : ByteArray) (i : Nat) (h : i < s.size) : (s.extract i (i + 1)).toList = [s[i]] := by
  rw [ByteArray.toList_eq, ByteArray.data_extract, Array.toList_extract, List.extract_eq_take_drop, Nat.add_sub_cancel_left]
  have h1 := restOf_get s i h
  unfold restOf at h1
  rw [h1]
  rfl
theorem eat_at (c : UInt8) (s : ByteArray) (i : Nat) (h : i < s.size) : eat c (restOf s i) = if s[i] = c then some (restOf s (i + 1)) else none := by rw [restOf_get s i h, eat]


theorem RdAt.drewN {w : World} {p i : Nat} {s : ByteArray} {bad : Bool} (h : RdAt w p s i bad) (n : Nat) : RdAt (w.drewN n) p s i bad := h
theorem RdAt.seti {w : World} {p i : Nat} {s : ByteArray} {bad : Bool} (h : RdAt w p s i bad) (j : Nat) (hj : j ≤ s.size) : RdAt (w.setCell ⟨p, 1, none⟩ (.int .i64 (j : Int))) p s j bad := ⟨Whole1.set h.1 1 _, hj⟩
theorem RdAt.setb {w : World} {p i : Nat} {s : ByteArray} {bad : Bool} (h : RdAt w p s i bad) (b : Bool) : RdAt (w.setCell ⟨p, 2, none⟩ (.bool b)) p s i b := ⟨Whole1.set h.1 2 _, h.2⟩

/-- The answer v; the place is j, the error bad. -/
def Read (w : World) (p : Nat) (s : ByteArray) (v : Value) (j : Nat) (bad : Bool) (e : Ending) (w' : World) : Prop := e = .returned v ∧ RdAt w' p s j bad ∧ w.grownBy w' (some p)

set_option maxHeartbeats 1000000 in
theorem take_yes (p i : Nat) (s : ByteArray) (c : UInt8) (w : World) (h : RdAt w p s i false) (hs : s.size ≤ 1048576) (hi : i < s.size) (hc : s[i] = c) :
    Calls Tryz.prog 52 #[.pointer (some ⟨p, 0, none⟩), .string ⟨#[c]⟩] w (Read w p s (.bool true) (i + 1) false) := by
  have hq : ((s.extract i (i + 1)).toList == [c]) = true := by rw [one_byte s i hi, hc]; simp
  have c0 : w.cell? ⟨p, 0, none⟩ = some (.string s) := Whole1.cell h.1 0
  have c1 : w.cell? ⟨p, 1, none⟩ = some (.int .i64 (i : Int)) := Whole1.cell h.1 1
  have c2 : w.cell? ⟨p, 2, none⟩ = some (.bool false) := Whole1.cell h.1 2
  have f1 : w.frozen? ⟨p, 1, none⟩ = false := Whole1.free h.1 1
  have hle : decide ((s.size : Int) < (i : Int) + 1) = false := decide_eq_false (by omega)
  have hwr : IntKind.i64.wrap ((i : Int) + 1) = (i : Int) + 1 := by rw [IntKind.wrap_i64]; omega
  have hl1 : (0 : Int) ≤ (i : Int) := by omega
  have hl2 : (i : Int) ≤ (i : Int) + 1 := by omega
  have hl3 : (i : Int) + 1 ≤ (s.size : Int) := by omega
  have HH := Lib.hid h
  clear h hc
  go_enter Tryz.func52, Tryz.ntmps52
  go_wp2
  go_quiet (fail)
  go_wp2
  go_ret
  exact ⟨rfl, (HH.out.drewN _).seti (i + 1) (by omega), only_set (only_drewN (only_refl _ _) _) 1 _⟩

set_option maxHeartbeats 1000000 in
theorem take_bad (p i : Nat) (s : ByteArray) (c : UInt8) (w : World) (h : RdAt w p s i true) :
    Calls Tryz.prog 52 #[.pointer (some ⟨p, 0, none⟩), .string ⟨#[c]⟩] w (Read w p s (.bool false) i true) := by
  have c0 : w.cell? ⟨p, 0, none⟩ = some (.string s) := Whole1.cell h.1 0
  have c1 : w.cell? ⟨p, 1, none⟩ = some (.int .i64 (i : Int)) := Whole1.cell h.1 1
  have c2 : w.cell? ⟨p, 2, none⟩ = some (.bool true) := Whole1.cell h.1 2
  have HH := Lib.hid h
  clear h
  go_enter Tryz.func52, Tryz.ntmps52
  go_wp2
  go_quiet (fail)
  go_wp2
  go_ret
  exact ⟨rfl, HH.out.drewN _, only_drewN (only_refl _ _) _⟩

set_option maxHeartbeats 1000000 in
theorem take_other (p i : Nat) (s : ByteArray) (c : UInt8) (w : World) (h : RdAt w p s i false) (hs : s.size ≤ 1048576) (hc : eat c (restOf s i) = none) :
    Calls Tryz.prog 52 #[.pointer (some ⟨p, 0, none⟩), .string ⟨#[c]⟩] w (Read w p s (.bool false) i false) := by
  have c0 : w.cell? ⟨p, 0, none⟩ = some (.string s) := Whole1.cell h.1 0
  have c1 : w.cell? ⟨p, 1, none⟩ = some (.int .i64 (i : Int)) := Whole1.cell h.1 1
  have c2 : w.cell? ⟨p, 2, none⟩ = some (.bool false) := Whole1.cell h.1 2
  have hwr : IntKind.i64.wrap ((i : Int) + 1) = (i : Int) + 1 := by
    have := h.2
    rw [IntKind.wrap_i64]
    omega
  have HH := Lib.hid h
  clear h
  by_cases hi : i < s.size
  · have hq : ((s.extract i (i + 1)).toList == [c]) = false := by
      rw [one_byte s i hi, beq_eq_false_iff_ne]
      intro e
      rw [eat_at c s i hi, if_pos (by simpa using e)] at hc
      cases hc
    have hle : decide ((s.size : Int) < (i : Int) + 1) = false := decide_eq_false (by omega)
    have hl1 : (0 : Int) ≤ (i : Int) := by omega
    have hl2 : (i : Int) ≤ (i : Int) + 1 := by omega
    have hl3 : (i : Int) + 1 ≤ (s.size : Int) := by omega
    clear hc
    go_enter Tryz.func52, Tryz.ntmps52
    go_wp2
    go_quiet (fail)
    go_wp2
    go_ret
    exact ⟨rfl, HH.out.drewN _, only_drewN (only_refl _ _) _⟩
  · have hle : decide ((s.size : Int) < (i : Int) + 1) = true := decide_eq_true (by omega)
    clear hc
    go_enter Tryz.func52, Tryz.ntmps52
    go_wp2
    go_quiet (fail)
    go_wp2
    go_ret
    exact ⟨rfl, HH.out.drewN _, only_drewN (only_refl _ _) _⟩

set_option maxHeartbeats 1000000 in
theorem must_yes (p i : Nat) (s : ByteArray) (c : UInt8) (w : World) (h : RdAt w p s i false) (hs : s.size ≤ 1048576) (hi : i < s.size) (hc : s[i] = c) :
    Calls Tryz.prog 56 #[.pointer (some ⟨p, 0, none⟩), .string ⟨#[c]⟩] w (Read w p s (.tuple #[]) (i + 1) false) := by
  have c2 : w.cell? ⟨p, 2, none⟩ = some (.bool false) := Whole1.cell h.1 2
  have HT := Lib.hid (take_yes p i s c w h hs hi hc)
  clear h hc
  go_enter Tryz.func56, Tryz.ntmps56
  go_wp2_with fail
  refine HT.out.mono ?_
  rintro e w1 ⟨rfl, h1, g1⟩
  have f2 : w1.frozen? ⟨p, 2, none⟩ = false := Whole1.free h1.1 2
  have d2 : w1.cell? ⟨p, 2, none⟩ = some (.bool false) := Whole1.cell h1.1 2
  have H1 := Lib.hid h1
  clear h1
  go_wp2
  exact bodyPost_end (v := .tuple #[]) (by simp [results, Tryz.results56]) rfl ⟨rfl, H1.out.setb false, only_set g1 2 _⟩

set_option maxHeartbeats 1000000 in
theorem must_no (p i : Nat) (s : ByteArray) (bad : Bool) (c : UInt8) (w : World) (h : RdAt w p s i bad) (hs : s.size ≤ 1048576) (hc : bad = true ∨ eat c (restOf s i) = none) :
    Calls Tryz.prog 56 #[.pointer (some ⟨p, 0, none⟩), .string ⟨#[c]⟩] w (Read w p s (.tuple #[]) i true) := by
  cases bad
  · have hc' : eat c (restOf s i) = none := hc.resolve_left (by simp)
    have c2 : w.cell? ⟨p, 2, none⟩ = some (.bool false) := Whole1.cell h.1 2
    have HT := Lib.hid (take_other p i s c w h hs hc')
    clear h hc hc'
    go_enter Tryz.func56, Tryz.ntmps56
    go_wp2_with fail
    refine HT.out.mono ?_
    rintro e w1 ⟨rfl, h1, g1⟩
    have f2 : w1.frozen? ⟨p, 2, none⟩ = false := Whole1.free h1.1 2
    have d2 : w1.cell? ⟨p, 2, none⟩ = some (.bool false) := Whole1.cell h1.1 2
    have H1 := Lib.hid h1
    clear h1
    go_wp2
    exact bodyPost_end (v := .tuple #[]) (by simp [results, Tryz.results56]) rfl ⟨rfl, H1.out.setb true, only_set g1 2 _⟩
  · have c2 : w.cell? ⟨p, 2, none⟩ = some (.bool true) := Whole1.cell h.1 2
    have f2 : w.frozen? ⟨p, 2, none⟩ = false := Whole1.free h.1 2
    have H1 := Lib.hid h
    clear h hc
    go_enter Tryz.func56, Tryz.ntmps56
    go_wp2
    exact bodyPost_end (v := .tuple #[]) (by simp [results, Tryz.results56]) rfl ⟨rfl, H1.out.setb true, only_set (only_refl _ _) 2 _⟩

end Go.Proofs.YtlmbnefoobameaaGreatDoor

namespace Go.Proofs.YtlmbnefoobameaaGreatDoor
open Go.RowKit

/-- The place of the reader. -/
def placeOf (w : World) (p : Nat) : Nat := match w.cell? ⟨p, 1, none⟩ with | some v => (intOf v).toNat | none => 0
theorem RdAt.place {w : World} {p i : Nat} {s : ByteArray} {bad : Bool} (h : RdAt w p s i bad) : placeOf w p = i := by
  have c1 : w.cell? ⟨p, 1, none⟩ = some (.int .i64 (i : Int)) := Whole1.cell h.1 1
  unfold placeOf
  rw [c1]
  simp [intOf]

theorem word_end (s : ByteArray) (k : Nat) (hk : k ≤ s.size) (hstop : ∀ h : k < s.size, wordC s[k] = false) : ∀ (d i : Nat), i + d = k → (∀ m, (h : m < k) → i ≤ m → wordC (s[m]'(by omega)) = true) →
    (restOf s i).dropWhile wordC = restOf s k ∧ (⟨((restOf s i).takeWhile wordC).toArray⟩ : ByteArray) = s.extract i k := by
  intro d
  induction d with
  | zero =>
    intro i hi _
    obtain rfl : i = k := by omega
    have e0 : s.extract i i = ⟨#[]⟩ := by
      apply ByteArray.ext
      rw [ByteArray.data_extract]
      simp
      omega
    rw [e0]
    by_cases h : i < s.size
    · rw [restOf_get s i h, List.dropWhile_cons_of_neg (by rw [hstop h]; simp), List.takeWhile_cons_of_neg (by rw [hstop h]; simp)]
      exact ⟨rfl, rfl⟩
    · rw [restOf_end s i (by omega)]
      exact ⟨rfl, rfl⟩
  | succ d ih =>
    intro i hi hall
    have h : i < s.size := by omega
    obtain ⟨h1, h2⟩ := ih (i + 1) (by omega) fun m hm him => hall m hm (by omega)
    have h3 := hall i (by omega) (Nat.le_refl _)
    rw [restOf_get s i h, List.dropWhile_cons_of_pos h3, List.takeWhile_cons_of_pos h3]
    refine ⟨h1, ?_⟩
    apply ByteArray.ext
    have h4 := congrArg (fun b : ByteArray => b.data.toList) h2
    simp only [ByteArray.data_extract, Array.toList_extract, List.extract_eq_take_drop] at h4
    apply Array.toList_inj.1
    simp only [ByteArray.data_extract, Array.toList_extract, List.extract_eq_take_drop]
    rw [List.drop_eq_getElem_cons (show i < s.data.toList.length by simpa using h), show k - i = (k - (i + 1)) + 1 by omega, List.take_succ_cons, ← h4, Array.getElem_toList]
    rfl

/-- The word from i on is handed back; the reader stands behind it. -/
def Word (w : World) (p : Nat) (s : ByteArray) (i : Nat) (bad : Bool) (e : Ending) (w' : World) : Prop :=
  ∃ k, i ≤ k ∧ Read w p s (.string (s.extract i k)) k bad e w' ∧ (restOf s i).dropWhile wordC = restOf s k ∧ (⟨((restOf s i).takeWhile wordC).toArray⟩ : ByteArray) = s.extract i k

set_option maxHeartbeats 4000000 in
theorem word_any (p i : Nat) (s : ByteArray) (bad : Bool) (w : World) (h : RdAt w p s i bad) (hs : s.size ≤ 1048576) :
    Calls Tryz.prog 54 #[.pointer (some ⟨p, 0, none⟩)] w (Word w p s i bad) := by
  have c1 : w.cell? ⟨p, 1, none⟩ = some (.int .i64 (i : Int)) := Whole1.cell h.1 1
  have hi := h.2
  have H0 := Lib.hid h
  clear h
  go_enter Tryz.func54, Tryz.ntmps54
  go_wp2
  go_loopw [] (fun wr => ∃ k : Nat, i ≤ k ∧ RdAt wr p s k bad ∧ (∀ m, (h : m < s.size) → m < k → i ≤ m → wordC s[m] = true) ∧ w.grownBy wr (some p)) (fun wr => s.size - placeOf wr p)
  case atStart => exact ⟨i, Nat.le_refl _, H0.out, fun m _ h1 h2 => absurd h1 (by omega), only_refl _ _⟩
  case round =>
    obtain ⟨k, hik, hr, hall, hg⟩ := hrel
    have c0 : wr.cell? ⟨p, 0, none⟩ = some (.string s) := Whole1.cell hr.1 0
    have c1 : wr.cell? ⟨p, 1, none⟩ = some (.int .i64 (k : Int)) := Whole1.cell hr.1 1
    have f1 : wr.frozen? ⟨p, 1, none⟩ = false := Whole1.free hr.1 1
    have hk := hr.2
    have hpl := Lib.hid hr.place
    have HR := Lib.hid hr
    have HA := Lib.hid hall
    clear hr hall
    have done : (∀ h : k < s.size, wordC s[k] = false) → Hid ((restOf s i).dropWhile wordC = restOf s k ∧ (⟨((restOf s i).takeWhile wordC).toArray⟩ : ByteArray) = s.extract i k) := fun hst => Lib.hid (word_end s k hk hst (k - i) i (by omega) fun m hm him => HA.out m (by omega) hm him)
    by_cases hlt : k < s.size
    · have hltI : decide ((k : Int) < (s.size : Int)) = true := decide_eq_true (by omega)
      have hk0 : (0 : Int) ≤ (k : Int) := by omega
      have hkl : (k : Int) < (s.size : Int) := by omega
      have hwr : IntKind.i64.wrap ((k : Int) + 1) = (k : Int) + 1 := by rw [IntKind.wrap_i64]; omega
      have hW : wordC s[k] = ((decide (48 ≤ s[k].toNat) && decide (s[k].toNat ≤ 57)) || (decide (97 ≤ s[k].toNat) && decide (s[k].toNat ≤ 122))) := rfl
      have go : wordC s[k] = true → Hid (∀ m, (h : m < s.size) → m < k + 1 → i ≤ m → wordC s[m] = true) := fun hw => Lib.hid fun m hm h1 h2 => by
        by_cases e : m = k
        · subst e
          exact hw
        · exact HA.out m hm (by omega) h2
      have HW := Lib.hid hW
      have DONE := Lib.hid done
      have GO := Lib.hid go
      clear hW done go
      by_cases h48 : 48 ≤ s[k].toNat
      · by_cases h57 : s[k].toNat ≤ 57
        · have i1 : decide ((48 : Int) ≤ (s[k].toNat : Int)) = true := decide_eq_true (by omega)
          have i2 : decide ((s[k].toNat : Int) ≤ 57) = true := decide_eq_true (by omega)
          have HN := GO.out (by rw [HW.out]; simp [h48, h57])
          clear DONE h48 h57
          go_wp2
          go_quiet (fail)
          go_wp2
          go_roundw
          case rel => exact ⟨k + 1, by omega, (HR.out.drewN _).seti (k + 1) (by omega), HN.out, only_set (only_drewN hg _) 1 _⟩
          case measure =>
            rw [hpl.out]
            exact Nat.lt_of_le_of_lt (Nat.le_of_eq (congrArg (fun x => s.size - x) ((HR.out.drewN _).seti (k + 1) (by omega)).place)) (show s.size - (k + 1) < s.size - k by omega)
        · by_cases h97 : 97 ≤ s[k].toNat
          · by_cases h122 : s[k].toNat ≤ 122
            · have i1 : decide ((48 : Int) ≤ (s[k].toNat : Int)) = true := decide_eq_true (by omega)
              have i2 : decide ((s[k].toNat : Int) ≤ 57) = false := decide_eq_false (by omega)
              have i3 : decide ((97 : Int) ≤ (s[k].toNat : Int)) = true := decide_eq_true (by omega)
              have i4 : decide ((s[k].toNat : Int) ≤ 122) = true := decide_eq_true (by omega)
              have HN := GO.out (by rw [HW.out]; simp [h97, h122])
              clear DONE h97 h122 h57 h48
              go_wp2
              go_quiet (fail)
              go_wp2
              go_roundw
              case rel => exact ⟨k + 1, by omega, (HR.out.drewN _).seti (k + 1) (by omega), HN.out, only_set (only_drewN hg _) 1 _⟩
              case measure =>
                rw [hpl.out]
                exact Nat.lt_of_le_of_lt (Nat.le_of_eq (congrArg (fun x => s.size - x) ((HR.out.drewN _).seti (k + 1) (by omega)).place)) (show s.size - (k + 1) < s.size - k by omega)
            · have i1 : decide ((48 : Int) ≤ (s[k].toNat : Int)) = true := decide_eq_true (by omega)
              have i2 : decide ((s[k].toNat : Int) ≤ 57) = false := decide_eq_false (by omega)
              have i3 : decide ((97 : Int) ≤ (s[k].toNat : Int)) = true := decide_eq_true (by omega)
              have i4 : decide ((s[k].toNat : Int) ≤ 122) = false := decide_eq_false (by omega)
              have HD := DONE.out (fun _ => by rw [HW.out]; simp; omega)
              clear DONE h97 h122 h57 h48
              have hl0 : (0 : Int) ≤ (i : Int) := by omega
              have hl1 : (i : Int) ≤ (k : Int) := by omega
              have hl2 : (k : Int) ≤ (s.size : Int) := by omega
              go_wp2
              go_quiet (fail)
              go_wp2
              go_quiet (fail)
              go_wp2
              go_ret
              exact ⟨k, hik, ⟨rfl, (HR.out.drewN _).drewN _, only_drewN (only_drewN hg _) _⟩, HD.out⟩
          · have i1 : decide ((48 : Int) ≤ (s[k].toNat : Int)) = true := decide_eq_true (by omega)
            have i2 : decide ((s[k].toNat : Int) ≤ 57) = false := decide_eq_false (by omega)
            have i3 : decide ((97 : Int) ≤ (s[k].toNat : Int)) = false := decide_eq_false (by omega)
            have HD := DONE.out (fun _ => by rw [HW.out]; simp; omega)
            clear DONE h97 h57 h48
            have hl0 : (0 : Int) ≤ (i : Int) := by omega
            have hl1 : (i : Int) ≤ (k : Int) := by omega
            have hl2 : (k : Int) ≤ (s.size : Int) := by omega
            go_wp2
            go_quiet (fail)
            go_wp2
            go_quiet (fail)
            go_wp2
            go_ret
            exact ⟨k, hik, ⟨rfl, (HR.out.drewN _).drewN _, only_drewN (only_drewN hg _) _⟩, HD.out⟩
      · have i1 : decide ((48 : Int) ≤ (s[k].toNat : Int)) = false := decide_eq_false (by omega)
        have i3 : decide ((97 : Int) ≤ (s[k].toNat : Int)) = false := decide_eq_false (by omega)
        have HD := DONE.out (fun _ => by rw [HW.out]; simp; omega)
        clear DONE h48
        have hl0 : (0 : Int) ≤ (i : Int) := by omega
        have hl1 : (i : Int) ≤ (k : Int) := by omega
        have hl2 : (k : Int) ≤ (s.size : Int) := by omega
        go_wp2
        go_quiet (fail)
        go_wp2
        go_quiet (fail)
        go_wp2
        go_ret
        exact ⟨k, hik, ⟨rfl, (HR.out.drewN _).drewN _, only_drewN (only_drewN hg _) _⟩, HD.out⟩
    · have hltI : decide ((k : Int) < (s.size : Int)) = false := decide_eq_false (by omega)
      have HD := done (fun h => absurd h hlt)
      have hl0 : (0 : Int) ≤ (i : Int) := by omega
      have hl1 : (i : Int) ≤ (k : Int) := by omega
      have hl2 : (k : Int) ≤ (s.size : Int) := by omega
      clear done
      go_wp2
      go_quiet (fail)
      go_wp2
      go_quiet (fail)
      go_wp2
      go_ret
      exact ⟨k, hik, ⟨rfl, (HR.out.drewN _).drewN _, only_drewN (only_drewN hg _) _⟩, HD.out⟩

end Go.Proofs.YtlmbnefoobameaaGreatDoor

namespace Go.Proofs.YtlmbnefoobameaaGreatDoor
open Go.RowKit

theorem RdAt.grown {w w' : World} {p i q : Nat} {s : ByteArray} {bad : Bool} (h : RdAt w p s i bad) (hg : w.grownBy w' (some q)) (hne : p ≠ q) : RdAt w' p s i bad := h.block (hg.block p h.lt (fun e => by injection e with e; exact hne e))
theorem RdAt.below {w w' : World} {p i B : Nat} {s : ByteArray} {bad : Bool} (h : RdAt w p s i bad) (hb : Below B w w') (hp : p < B) : RdAt w' p s i bad := h.block (hb.block p hp)

/-- The world with the reader's block turned. -/
theorem turned {w W : World} {p i j : Nat} {s : ByteArray} {b b' : Bool} (h : RdAt w p s i b) (h' : RdAt W p s j b') (hg : w.grownBy W (some p)) :
    ∃ w', w.grownBy w' (some p) ∧ w'.heap.size = w.heap.size ∧ Below w.heap.size w' W := by
  refine ⟨(w.setCell ⟨p, 1, none⟩ (.int .i64 (j : Int))).setCell ⟨p, 2, none⟩ (.bool b'), only_set (only_set (only_refl _ _) 1 _) 2 _, by simp [World.setCell], ?_⟩
  refine ⟨hg.os, hg.tape, hg.output, by have := hg.size; simpa [World.setCell] using this, fun q hq => ?_⟩
  by_cases e : q = p
  · subst e
    have h1 : Whole1 ((w.setCell ⟨q, 1, none⟩ (.int .i64 (j : Int))).setCell ⟨q, 2, none⟩ (.bool b')) q 52 #[.string s, .int .i64 (j : Int), .bool b'] := (Whole1.set h.1 1 _).set 2 _
    exact (show W.heap[q]? = _ from h'.1).trans (show _ = _ from h1).symm
  · rw [Below.heap_setCell _ _ _ _ e, Below.heap_setCell _ _ _ _ e]
    exact hg.block q hq (fun e' => by injection e' with e'; exact e e')

/-- An error: some value, the reader knows it. -/
def Bads (w : World) (p : Nat) (s : ByteArray) (e : Ending) (w' : World) : Prop :=
  ∃ x L n lc A m ac j, e = .returned (.agg #[.int .i64 x, .slice L n lc, .slice A m ac]) ∧ RdAt w' p s j true ∧ w.grownBy w' (some p)
theorem grown_drewR {w w' : World} {row : Option Nat} (h : w.drew.grownBy w' row) : w.grownBy w' row := ⟨h.os, h.tape, h.output, h.size, h.block⟩
/-- What is read so far, ahead of the rest. -/
def glue (ls : List ByteArray) (ts : List Ty) : Option (List ByteArray × List Ty × List UInt8) → Option (List ByteArray × List Ty × List UInt8)
  | none => none
  | some (a, b, q) => some (ls ++ a, ts ++ b, q)
theorem glue_nil (x : Option (List ByteArray × List Ty × List UInt8)) : glue [] [] x = x := by
  cases x with
  | none => rfl
  | some v => rfl
theorem eat_hit {c : UInt8} {s : ByteArray} {k : Nat} (hk : k < s.size) (hc : s[k] = c) : eat c (restOf s k) = some (restOf s (k + 1)) := by rw [eat_at c s k hk, if_pos hc]
theorem eat_miss {c : UInt8} {s : ByteArray} {k : Nat} (h : ¬ ∃ hk : k < s.size, s[k] = c) : eat c (restOf s k) = none := by
  by_cases hk : k < s.size
  · rw [eat_at c s k hk, if_neg fun e => h ⟨hk, e⟩]
  · rw [restOf_end s k (by omega)]
    rfl

/-- One round of the labels. -/
theorem round_colon {f : List UInt8 → Option (Ty × List UInt8)} {s : ByteArray} {j k fuel : Nat} {ls : List ByteArray} {ts : List Ty} (hd : (restOf s j).dropWhile wordC = restOf s k) (hf : (restOf s j).length < fuel) (h : eat 58 (restOf s k) = none) : glue ls ts (rdLab f fuel (restOf s j)) = none := by
  obtain ⟨m, rfl⟩ : ∃ m, fuel = m + 1 := ⟨fuel - 1, by omega⟩
  rw [rdLab, hd, h]
  rfl
theorem round_type {f : List UInt8 → Option (Ty × List UInt8)} {s : ByteArray} {j k fuel : Nat} {ls : List ByteArray} {ts : List Ty} (hd : (restOf s j).dropWhile wordC = restOf s k) (hf : (restOf s j).length < fuel) (h : eat 58 (restOf s k) = some (restOf s (k + 1))) (ht : f (restOf s (k + 1)) = none) : glue ls ts (rdLab f fuel (restOf s j)) = none := by
  obtain ⟨m, rfl⟩ : ∃ m, fuel = m + 1 := ⟨fuel - 1, by omega⟩
  rw [rdLab, hd, h]
  simp only [ht]
  rfl
theorem round_last {f : List UInt8 → Option (Ty × List UInt8)} {s e : ByteArray} {j k fuel : Nat} {ls : List ByteArray} {ts : List Ty} {t : Ty} {r : List UInt8} (hd : (restOf s j).dropWhile wordC = restOf s k) (he : (⟨((restOf s j).takeWhile wordC).toArray⟩ : ByteArray) = e) (hf : (restOf s j).length < fuel) (h : eat 58 (restOf s k) = some (restOf s (k + 1))) (ht : f (restOf s (k + 1)) = some (t, r)) (hc : eat 44 r = none) :
    glue ls ts (rdLab f fuel (restOf s j)) = some (ls ++ [e], ts ++ [t], r) := by
  obtain ⟨m, rfl⟩ : ∃ m, fuel = m + 1 := ⟨fuel - 1, by omega⟩
  rw [rdLab, hd, h]
  simp only [ht, hc, he]
  rfl
theorem round_more {f : List UInt8 → Option (Ty × List UInt8)} {s e : ByteArray} {j k fuel : Nat} {ls : List ByteArray} {ts : List Ty} {t : Ty} {r r2 : List UInt8} (hd : (restOf s j).dropWhile wordC = restOf s k) (he : (⟨((restOf s j).takeWhile wordC).toArray⟩ : ByteArray) = e) (hf : (restOf s j).length < fuel) (h : eat 58 (restOf s k) = some (restOf s (k + 1))) (ht : f (restOf s (k + 1)) = some (t, r)) (hc : eat 44 r = some r2) :
    glue ls ts (rdLab f fuel (restOf s j)) = glue (ls ++ [e]) (ts ++ [t]) (rdLab f (fuel - 1) r2) := by
  obtain ⟨m, rfl⟩ : ∃ m, fuel = m + 1 := ⟨fuel - 1, by omega⟩
  rw [rdLab, hd, h, Nat.add_sub_cancel]
  simp only [ht, hc, he]
  cases rdLab f m r2 with
  | none => rfl
  | some v => simp [glue]

end Go.Proofs.YtlmbnefoobameaaGreatDoor
