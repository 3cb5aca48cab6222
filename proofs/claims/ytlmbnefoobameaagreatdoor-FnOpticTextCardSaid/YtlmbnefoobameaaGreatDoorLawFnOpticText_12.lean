/- Lemmas: ReadO3, OParse, SpecOParse, ImplEqual, SpecOtEq, OImplEqual. -/
import Derived.Test.YtlmbnefoobameaaGreatDoorLawFnOpticText_11
import Derived.Test.YtlmbnefoobameaaGreatDoorLawFnOpticText_8
import Derived.Test.YtlmbnefoobameaaGreatDoorLawFnOpticText_1
import Derived.Test.YtlmbnefoobameaaGreatDoorLawFnOpticText_6
import Derived.Test.YtlmbnefoobameaaGreatDoorLawFnOpticText_2
import Derived.Deep.RegionHeld3
import Derived.Deep.RegionHeldLaw
import Derived.Test.YtlmbnefoobameaaGreatDoorLawFnOpticText_3
import Derived.Test.YtlmbnefoobameaaGreatDoorLawFnOpticText_4

section
namespace Go.Proofs.YtlmbnefoobameaaGreatDoor.OR
open Go Go.RowKit
attribute [local go_sem ↓] Go.wp_at_zero Go.wp_at_succ

set_option maxHeartbeats 1000000 in
theorem type_stops (d : Int) (w : World) (p i : Nat) (s : ByteArray) (b : Bool) (hr : RdAt w p s i b) (hd : b = true ∨ decide (10 < d) = true) : Calls Tryz.prog 27 #[.pointer (some ⟨p, 0, none⟩), .int .i64 d] w (Bads w p s) := by
  have hpl := hr.lt
  obtain ⟨hb0, r0, hs0⟩ := boxes1 w 26 #[.int .i64 0, .string ⟨#[]⟩, .int .i64 0, .slice none 0 0]
  have hr0 := hr.below hb0 hpl
  have H0 := Lib.hid (⟨hr0.setb true, (Below.heap_setCell _ _ _ _ (by show w.heap.size ≠ p; omega)).trans r0, only_set (grown_low (only_refl w (some p)) hb0 (Nat.le_refl _)) 2 _⟩ : Hold w ((w.alloc (.cells #[.int .i64 0, .string ⟨#[]⟩, .int .i64 0, .slice none 0 0] 26)).setCell ⟨p, 2, none⟩ (.bool true)) p w.heap.size s i true)
  have c2 : (w.alloc (.cells #[.int .i64 0, .string ⟨#[]⟩, .int .i64 0, .slice none 0 0] 26)).cell? ⟨p, 2, none⟩ = some (.bool b) := Whole1.cell hr0.1 2
  have f2 : (w.alloc (.cells #[.int .i64 0, .string ⟨#[]⟩, .int .i64 0, .slice none 0 0] 26)).frozen? ⟨p, 2, none⟩ = false := Whole1.free hr0.1 2
  have d0 : ((w.alloc (.cells #[.int .i64 0, .string ⟨#[]⟩, .int .i64 0, .slice none 0 0] 26)).setCell ⟨p, 2, none⟩ (.bool true)).cell? ⟨w.heap.size, 0, none⟩ = some (.int .i64 0) := H0.out.zero.cell 0
  have f0 : ((w.alloc (.cells #[.int .i64 0, .string ⟨#[]⟩, .int .i64 0, .slice none 0 0] 26)).setCell ⟨p, 2, none⟩ (.bool true)).frozen? ⟨w.heap.size, 0, none⟩ = false := H0.out.zero.free 0
  have d1 : ((w.alloc (.cells #[.int .i64 0, .string ⟨#[]⟩, .int .i64 0, .slice none 0 0] 26)).setCell ⟨p, 2, none⟩ (.bool true)).cell? ⟨w.heap.size, 1, none⟩ = some (.string ⟨#[]⟩) := H0.out.zero.cell 1
  have f1 : ((w.alloc (.cells #[.int .i64 0, .string ⟨#[]⟩, .int .i64 0, .slice none 0 0] 26)).setCell ⟨p, 2, none⟩ (.bool true)).frozen? ⟨w.heap.size, 1, none⟩ = false := H0.out.zero.free 1
  have d2 : ((w.alloc (.cells #[.int .i64 0, .string ⟨#[]⟩, .int .i64 0, .slice none 0 0] 26)).setCell ⟨p, 2, none⟩ (.bool true)).cell? ⟨w.heap.size, 2, none⟩ = some (.int .i64 0) := H0.out.zero.cell 2
  have f2 : ((w.alloc (.cells #[.int .i64 0, .string ⟨#[]⟩, .int .i64 0, .slice none 0 0] 26)).setCell ⟨p, 2, none⟩ (.bool true)).frozen? ⟨w.heap.size, 2, none⟩ = false := H0.out.zero.free 2
  have d3 : ((w.alloc (.cells #[.int .i64 0, .string ⟨#[]⟩, .int .i64 0, .slice none 0 0] 26)).setCell ⟨p, 2, none⟩ (.bool true)).cell? ⟨w.heap.size, 3, none⟩ = some (.slice none 0 0) := H0.out.zero.cell 3
  have f3 : ((w.alloc (.cells #[.int .i64 0, .string ⟨#[]⟩, .int .i64 0, .slice none 0 0] 26)).setCell ⟨p, 2, none⟩ (.bool true)).frozen? ⟨w.heap.size, 3, none⟩ = false := H0.out.zero.free 3
  have b3 : ((w.alloc (.cells #[.int .i64 0, .string ⟨#[]⟩, .int .i64 0, .slice none 0 0] 26)).setCell ⟨p, 2, none⟩ (.bool true)).cell? ⟨p, 2, none⟩ = some (.bool true) := Whole1.cell H0.out.rd.1 2
  clear hr hr0 r0 hb0 hs0
  have hd8 : b = true ∨ b = false ∧ decide (10 < d) = true := by
    rcases hd with h | h
    · exact Or.inl h
    · cases b
      · exact Or.inr ⟨rfl, h⟩
      · exact Or.inl rfl
  clear hd
  go_enter Tryz.func27, Tryz.ntmps27
  go_upto_region 1 with fail
  generalize w.alloc (.cells #[.int .i64 0, .string ⟨#[]⟩, .int .i64 0, .slice none 0 0] 26) = w0 at *
  rcases hd8 with rfl | ⟨rfl, hd8⟩
  all_goals
    go_wp2
    exact bodyPost_ret (v := .agg #[.int .i64 0, .string ⟨#[]⟩, .int .i64 0, .slice none 0 0]) (by simp [results, Tryz.results27, go_sem, d0, d1, d2, d3]) rfl (fin_bad H0.out hpl 0 0 ⟨#[]⟩ none 0 0 _ _ _ _)

set_option maxHeartbeats 16000000 in
set_option maxRecDepth 100000 in
theorem type_reads (n : Nat) (d : Int) (hd : decide (10 < d) = false) (hwr : IntKind.i64.wrap (d + 1) = d + 1) (H : TypeOne n (d + 1)) (w : World) (p i : Nat) (s : ByteArray) (hr : RdAt w p s i false) (hs : s.size ≤ 1048576) :
    Calls Tryz.prog 27 #[.pointer (some ⟨p, 0, none⟩), .int .i64 d] w (Does (rdOt (n + 1) (restOf s i)) w p s) := by
  have hpl := hr.lt
  have hrp : w.heap.size ≠ p := by omega
  have hil := hr.2
  obtain ⟨hb0, r0, hs0⟩ := boxes1 w 26 #[.int .i64 0, .string ⟨#[]⟩, .int .i64 0, .slice none 0 0]
  have hr0 := hr.below hb0 hpl
  have HH1 := Lib.hid (⟨hr0.setb false, (Below.heap_setCell _ _ _ _ (by show w.heap.size ≠ p; omega)).trans r0, only_set (grown_low (only_refl w (some p)) hb0 (Nat.le_refl _)) 2 _⟩ : Hold w ((w.alloc (.cells #[.int .i64 0, .string ⟨#[]⟩, .int .i64 0, .slice none 0 0] 26)).setCell ⟨p, 2, none⟩ (.bool false)) p w.heap.size s i false)
  have c2 : (w.alloc (.cells #[.int .i64 0, .string ⟨#[]⟩, .int .i64 0, .slice none 0 0] 26)).cell? ⟨p, 2, none⟩ = some (.bool false) := Whole1.cell hr0.1 2
  have f2 : (w.alloc (.cells #[.int .i64 0, .string ⟨#[]⟩, .int .i64 0, .slice none 0 0] 26)).frozen? ⟨p, 2, none⟩ = false := Whole1.free hr0.1 2
  have H2 := Lib.hid H
  clear hr hr0 r0 hb0 hs0 H
  go_enter Tryz.func27, Tryz.ntmps27
  go_upto_region 1 with fail
  generalize w.alloc (.cells #[.int .i64 0, .string ⟨#[]⟩, .int .i64 0, .slice none 0 0] 26) = w0 at *
  go_upto_region 2 with fail
  clear c2 f2
  generalize w0.setCell ⟨p, 2, none⟩ (.bool false) = w1 at *
  have c2 : w1.cell? ⟨p, 2, none⟩ = some (.bool false) := Whole1.cell HH1.out.rd.1 2
  cases he : eats [105, 100] (restOf s i) with
  | some r =>
    obtain ⟨hle, rfl⟩ := eats_rest (p := ⟨#[105, 100]⟩) hil he
    have HT := Lib.hid (takeE_yes p i s ⟨#[105, 100]⟩ _ w1 HH1.out.rd hs he)
    have HX := Lib.hid (show rdOt (n + 1) (restOf s i) = some (.mk 1 0 ⟨#[]⟩ [], restOf s (i + (⟨#[105, 100]⟩ : ByteArray).size)) by simp only [rdOt, he])
    clear he
    generalize i + (⟨#[105, 100]⟩ : ByteArray).size = j at *
    go_wp2_with fail
    refine HT.out.mono ?_
    rintro e w2 ⟨rfl, hr2, hg2⟩
    have HH2 := Lib.hid (HH1.out.read hr2 hg2 hrp)
    clear hr2 hg2
    have d0 : w2.cell? ⟨w.heap.size, 0, none⟩ = some (.int .i64 0) := HH2.out.zero.cell 0
    have f0 : w2.frozen? ⟨w.heap.size, 0, none⟩ = false := HH2.out.zero.free 0
    have d1 : w2.cell? ⟨w.heap.size, 1, none⟩ = some (.string ⟨#[]⟩) := HH2.out.zero.cell 1
    have f1 : w2.frozen? ⟨w.heap.size, 1, none⟩ = false := HH2.out.zero.free 1
    have d2 : w2.cell? ⟨w.heap.size, 2, none⟩ = some (.int .i64 0) := HH2.out.zero.cell 2
    have f2 : w2.frozen? ⟨w.heap.size, 2, none⟩ = false := HH2.out.zero.free 2
    have d3 : w2.cell? ⟨w.heap.size, 3, none⟩ = some (.slice none 0 0) := HH2.out.zero.cell 3
    have f3 : w2.frozen? ⟨w.heap.size, 3, none⟩ = false := HH2.out.zero.free 3
    go_wp2
    exact bodyPost_ret (v := .agg #[.int .i64 1, .string ⟨#[]⟩, .int .i64 0, .slice none 0 0]) (by simp [results, Tryz.results27, go_sem, d0, d1, d2, d3]) rfl (Or.inr ⟨_, _, HX.out, fin_good HH2.out (OwnOt.leaf _ _ 1 0 ⟨#[]⟩ (Nat.zero_le _)) hpl _ _ _ _⟩)
  | none =>
    have E1 := Lib.hid he
    have HT := Lib.hid (takeE_no p i s ⟨#[105, 100]⟩ w1 HH1.out.rd hs (by decide) he)
    clear he
    go_wp2_with fail
    refine HT.out.mono ?_
    rintro e wx1 ⟨rfl, hr2, hg2⟩
    have HH1 := Lib.hid (HH1.out.read hr2 hg2 hrp)
    clear hr2 hg2
    cases he : eats [46] (restOf s i) with
    | some r =>
      obtain ⟨hle, rfl⟩ := eats_rest (p := ⟨#[46]⟩) hil he
      have HT := Lib.hid (takeE_yes p i s ⟨#[46]⟩ _ wx1 HH1.out.rd hs he)
      have HX := Lib.hid (show rdOt (n + 1) (restOf s i) = rdNm 2 (restOf s (i + (⟨#[46]⟩ : ByteArray).size)) by simp only [rdOt, E1.out, he])
      clear he
      generalize i + (⟨#[46]⟩ : ByteArray).size = j at *
      go_wp2_with fail
      refine HT.out.mono ?_
      rintro e w2 ⟨rfl, hr2, hg2⟩
      have HH2 := Lib.hid (HH1.out.read hr2 hg2 hrp)
      clear hr2 hg2
      have HW := Lib.hid (word_any p j s false w2 HH2.out.rd hs)
      go_wp2_with fail
      refine HW.out.mono ?_
      rintro e w3 ⟨k1, hk1, ⟨rfl, hr3, hg3⟩, hd3, ht3⟩
      have HH3 := Lib.hid (HH2.out.read hr3 hg3 hrp)
      have HXK := Lib.hid (show rdOt (n + 1) (restOf s i) = some (.mk 2 0 (s.extract j k1) [], restOf s k1) by rw [HX.out, rdNm, ht3, hd3])
      have HN := Lib.hid (l7Named_any 2 (s.extract j k1) w3)
      have hz3 := HH3.out.zero.lt
      have hp3 := HH3.out.rd.lt
      have hg3' := HH3.out.grown.size
      have hwz : (s.extract j k1).size ≤ maxLen := by rw [ByteArray.size_extract]; unfold maxLen; omega
      clear hr3 hg3 hd3 ht3
      go_wp2_with fail
      refine HN.out.mono ?_
      rintro e w4 ⟨rfl, hb4⟩
      have HH4 := Lib.hid (HH3.out.more hb4 hz3 hp3 hg3')
      clear hb4
      have d0 : w4.cell? ⟨w.heap.size, 0, none⟩ = some (.int .i64 0) := HH4.out.zero.cell 0
      have f0 : w4.frozen? ⟨w.heap.size, 0, none⟩ = false := HH4.out.zero.free 0
      have d1 : w4.cell? ⟨w.heap.size, 1, none⟩ = some (.string ⟨#[]⟩) := HH4.out.zero.cell 1
      have f1 : w4.frozen? ⟨w.heap.size, 1, none⟩ = false := HH4.out.zero.free 1
      have d2 : w4.cell? ⟨w.heap.size, 2, none⟩ = some (.int .i64 0) := HH4.out.zero.cell 2
      have f2 : w4.frozen? ⟨w.heap.size, 2, none⟩ = false := HH4.out.zero.free 2
      have d3 : w4.cell? ⟨w.heap.size, 3, none⟩ = some (.slice none 0 0) := HH4.out.zero.cell 3
      have f3 : w4.frozen? ⟨w.heap.size, 3, none⟩ = false := HH4.out.zero.free 3
      go_wp2
      exact bodyPost_ret (v := .agg #[.int .i64 2, .string (s.extract j k1), .int .i64 0, .slice none 0 0]) (by simp [results, Tryz.results27, go_sem, d0, d1, d2, d3]) rfl (Or.inr ⟨_, _, HXK.out, fin_good HH4.out (OwnOt.leaf _ _ 2 0 _ hwz) hpl _ _ _ _⟩)
    | none =>
      have E2 := Lib.hid he
      have HT := Lib.hid (takeE_no p i s ⟨#[46]⟩ wx1 HH1.out.rd hs (by decide) he)
      clear he
      go_wp2_with fail
      refine HT.out.mono ?_
      rintro e wx2 ⟨rfl, hr2, hg2⟩
      have HH1 := Lib.hid (HH1.out.read hr2 hg2 hrp)
      clear hr2 hg2
      cases he : eats [63] (restOf s i) with
      | some r =>
        obtain ⟨hle, rfl⟩ := eats_rest (p := ⟨#[63]⟩) hil he
        have HT := Lib.hid (takeE_yes p i s ⟨#[63]⟩ _ wx2 HH1.out.rd hs he)
        have HX := Lib.hid (show rdOt (n + 1) (restOf s i) = rdNm 3 (restOf s (i + (⟨#[63]⟩ : ByteArray).size)) by simp only [rdOt, E1.out, E2.out, he])
        clear he
        generalize i + (⟨#[63]⟩ : ByteArray).size = j at *
        go_wp2_with fail
        refine HT.out.mono ?_
        rintro e w2 ⟨rfl, hr2, hg2⟩
        have HH2 := Lib.hid (HH1.out.read hr2 hg2 hrp)
        clear hr2 hg2
        have HW := Lib.hid (word_any p j s false w2 HH2.out.rd hs)
        go_wp2_with fail
        refine HW.out.mono ?_
        rintro e w3 ⟨k1, hk1, ⟨rfl, hr3, hg3⟩, hd3, ht3⟩
        have HH3 := Lib.hid (HH2.out.read hr3 hg3 hrp)
        have HXK := Lib.hid (show rdOt (n + 1) (restOf s i) = some (.mk 3 0 (s.extract j k1) [], restOf s k1) by rw [HX.out, rdNm, ht3, hd3])
        have HN := Lib.hid (l7Named_any 3 (s.extract j k1) w3)
        have hz3 := HH3.out.zero.lt
        have hp3 := HH3.out.rd.lt
        have hg3' := HH3.out.grown.size
        have hwz : (s.extract j k1).size ≤ maxLen := by rw [ByteArray.size_extract]; unfold maxLen; omega
        clear hr3 hg3 hd3 ht3
        go_wp2_with fail
        refine HN.out.mono ?_
        rintro e w4 ⟨rfl, hb4⟩
        have HH4 := Lib.hid (HH3.out.more hb4 hz3 hp3 hg3')
        clear hb4
        have d0 : w4.cell? ⟨w.heap.size, 0, none⟩ = some (.int .i64 0) := HH4.out.zero.cell 0
        have f0 : w4.frozen? ⟨w.heap.size, 0, none⟩ = false := HH4.out.zero.free 0
        have d1 : w4.cell? ⟨w.heap.size, 1, none⟩ = some (.string ⟨#[]⟩) := HH4.out.zero.cell 1
        have f1 : w4.frozen? ⟨w.heap.size, 1, none⟩ = false := HH4.out.zero.free 1
        have d2 : w4.cell? ⟨w.heap.size, 2, none⟩ = some (.int .i64 0) := HH4.out.zero.cell 2
        have f2 : w4.frozen? ⟨w.heap.size, 2, none⟩ = false := HH4.out.zero.free 2
        have d3 : w4.cell? ⟨w.heap.size, 3, none⟩ = some (.slice none 0 0) := HH4.out.zero.cell 3
        have f3 : w4.frozen? ⟨w.heap.size, 3, none⟩ = false := HH4.out.zero.free 3
        go_wp2
        exact bodyPost_ret (v := .agg #[.int .i64 3, .string (s.extract j k1), .int .i64 0, .slice none 0 0]) (by simp [results, Tryz.results27, go_sem, d0, d1, d2, d3]) rfl (Or.inr ⟨_, _, HXK.out, fin_good HH4.out (OwnOt.leaf _ _ 3 0 _ hwz) hpl _ _ _ _⟩)
      | none =>
        have E3 := Lib.hid he
        have HT := Lib.hid (takeE_no p i s ⟨#[63]⟩ wx2 HH1.out.rd hs (by decide) he)
        clear he
        go_wp2_with fail
        refine HT.out.mono ?_
        rintro e wx3 ⟨rfl, hr2, hg2⟩
        have HH1 := Lib.hid (HH1.out.read hr2 hg2 hrp)
        clear hr2 hg2
        cases he : eats [101, 97, 99, 104] (restOf s i) with
        | some r =>
          obtain ⟨hle, rfl⟩ := eats_rest (p := ⟨#[101, 97, 99, 104]⟩) hil he
          have HT := Lib.hid (takeE_yes p i s ⟨#[101, 97, 99, 104]⟩ _ wx3 HH1.out.rd hs he)
          have HX := Lib.hid (show rdOt (n + 1) (restOf s i) = some (.mk 4 0 ⟨#[]⟩ [], restOf s (i + (⟨#[101, 97, 99, 104]⟩ : ByteArray).size)) by simp only [rdOt, E1.out, E2.out, E3.out, he])
          clear he
          generalize i + (⟨#[101, 97, 99, 104]⟩ : ByteArray).size = j at *
          go_wp2_with fail
          refine HT.out.mono ?_
          rintro e w2 ⟨rfl, hr2, hg2⟩
          have HH2 := Lib.hid (HH1.out.read hr2 hg2 hrp)
          clear hr2 hg2
          have d0 : w2.cell? ⟨w.heap.size, 0, none⟩ = some (.int .i64 0) := HH2.out.zero.cell 0
          have f0 : w2.frozen? ⟨w.heap.size, 0, none⟩ = false := HH2.out.zero.free 0
          have d1 : w2.cell? ⟨w.heap.size, 1, none⟩ = some (.string ⟨#[]⟩) := HH2.out.zero.cell 1
          have f1 : w2.frozen? ⟨w.heap.size, 1, none⟩ = false := HH2.out.zero.free 1
          have d2 : w2.cell? ⟨w.heap.size, 2, none⟩ = some (.int .i64 0) := HH2.out.zero.cell 2
          have f2 : w2.frozen? ⟨w.heap.size, 2, none⟩ = false := HH2.out.zero.free 2
          have d3 : w2.cell? ⟨w.heap.size, 3, none⟩ = some (.slice none 0 0) := HH2.out.zero.cell 3
          have f3 : w2.frozen? ⟨w.heap.size, 3, none⟩ = false := HH2.out.zero.free 3
          go_wp2
          exact bodyPost_ret (v := .agg #[.int .i64 4, .string ⟨#[]⟩, .int .i64 0, .slice none 0 0]) (by simp [results, Tryz.results27, go_sem, d0, d1, d2, d3]) rfl (Or.inr ⟨_, _, HX.out, fin_good HH2.out (OwnOt.leaf _ _ 4 0 ⟨#[]⟩ (Nat.zero_le _)) hpl _ _ _ _⟩)
        | none =>
          have E4 := Lib.hid he
          have HT := Lib.hid (takeE_no p i s ⟨#[101, 97, 99, 104]⟩ wx3 HH1.out.rd hs (by decide) he)
          clear he
          go_wp2_with fail
          refine HT.out.mono ?_
          rintro e wx4 ⟨rfl, hr2, hg2⟩
          have HH1 := Lib.hid (HH1.out.read hr2 hg2 hrp)
          clear hr2 hg2
          cases he : eats [97, 108, 108] (restOf s i) with
          | some r =>
            obtain ⟨hle, rfl⟩ := eats_rest (p := ⟨#[97, 108, 108]⟩) hil he
            have HT := Lib.hid (takeE_yes p i s ⟨#[97, 108, 108]⟩ _ wx4 HH1.out.rd hs he)
            have HX := Lib.hid (show rdOt (n + 1) (restOf s i) = some (.mk 5 0 ⟨#[]⟩ [], restOf s (i + (⟨#[97, 108, 108]⟩ : ByteArray).size)) by simp only [rdOt, E1.out, E2.out, E3.out, E4.out, he])
            clear he
            generalize i + (⟨#[97, 108, 108]⟩ : ByteArray).size = j at *
            go_wp2_with fail
            refine HT.out.mono ?_
            rintro e w2 ⟨rfl, hr2, hg2⟩
            have HH2 := Lib.hid (HH1.out.read hr2 hg2 hrp)
            clear hr2 hg2
            have d0 : w2.cell? ⟨w.heap.size, 0, none⟩ = some (.int .i64 0) := HH2.out.zero.cell 0
            have f0 : w2.frozen? ⟨w.heap.size, 0, none⟩ = false := HH2.out.zero.free 0
            have d1 : w2.cell? ⟨w.heap.size, 1, none⟩ = some (.string ⟨#[]⟩) := HH2.out.zero.cell 1
            have f1 : w2.frozen? ⟨w.heap.size, 1, none⟩ = false := HH2.out.zero.free 1
            have d2 : w2.cell? ⟨w.heap.size, 2, none⟩ = some (.int .i64 0) := HH2.out.zero.cell 2
            have f2 : w2.frozen? ⟨w.heap.size, 2, none⟩ = false := HH2.out.zero.free 2
            have d3 : w2.cell? ⟨w.heap.size, 3, none⟩ = some (.slice none 0 0) := HH2.out.zero.cell 3
            have f3 : w2.frozen? ⟨w.heap.size, 3, none⟩ = false := HH2.out.zero.free 3
            go_wp2
            exact bodyPost_ret (v := .agg #[.int .i64 5, .string ⟨#[]⟩, .int .i64 0, .slice none 0 0]) (by simp [results, Tryz.results27, go_sem, d0, d1, d2, d3]) rfl (Or.inr ⟨_, _, HX.out, fin_good HH2.out (OwnOt.leaf _ _ 5 0 ⟨#[]⟩ (Nat.zero_le _)) hpl _ _ _ _⟩)
          | none =>
            have E5 := Lib.hid he
            have HT := Lib.hid (takeE_no p i s ⟨#[97, 108, 108]⟩ wx4 HH1.out.rd hs (by decide) he)
            clear he
            go_wp2_with fail
            refine HT.out.mono ?_
            rintro e wx5 ⟨rfl, hr2, hg2⟩
            have HH1 := Lib.hid (HH1.out.read hr2 hg2 hrp)
            clear hr2 hg2
            cases he : eats [97, 116, 32] (restOf s i) with
            | some r =>
              obtain ⟨hle, rfl⟩ := eats_rest (p := ⟨#[97, 116, 32]⟩) hil he
              have HT := Lib.hid (takeE_yes p i s ⟨#[97, 116, 32]⟩ _ wx5 HH1.out.rd hs he)
              have HX := Lib.hid (show rdOt (n + 1) (restOf s i) = rdNumO 6 (restOf s (i + (⟨#[97, 116, 32]⟩ : ByteArray).size)) by simp only [rdOt, E1.out, E2.out, E3.out, E4.out, E5.out, he])
              clear he
              generalize i + (⟨#[97, 116, 32]⟩ : ByteArray).size = j at *
              go_wp2_with fail
              refine HT.out.mono ?_
              rintro e w2 ⟨rfl, hr2, hg2⟩
              have HH2 := Lib.hid (HH1.out.read hr2 hg2 hrp)
              clear hr2 hg2
              have HN := Lib.hid (readNumO w2 p j s HH2.out.rd hs)
              go_wp2_with fail
              refine HN.out.mono ?_
              rintro e w3 (⟨hn, y, j3, rfl, hr3, hg3⟩ | ⟨v, r3, j3, hx, rfl, hrr, hr3, hg3⟩)
              · have HH3 := Lib.hid (HH2.out.read hr3 hg3 hrp)
                have HXK := Lib.hid (show rdOt (n + 1) (restOf s i) = none by rw [HX.out, rdNumO, hn])
                clear hr3 hg3 hn
                have d0 : w3.cell? ⟨w.heap.size, 0, none⟩ = some (.int .i64 0) := HH3.out.zero.cell 0
                have f0 : w3.frozen? ⟨w.heap.size, 0, none⟩ = false := HH3.out.zero.free 0
                have d1 : w3.cell? ⟨w.heap.size, 1, none⟩ = some (.string ⟨#[]⟩) := HH3.out.zero.cell 1
                have f1 : w3.frozen? ⟨w.heap.size, 1, none⟩ = false := HH3.out.zero.free 1
                have d2 : w3.cell? ⟨w.heap.size, 2, none⟩ = some (.int .i64 0) := HH3.out.zero.cell 2
                have f2 : w3.frozen? ⟨w.heap.size, 2, none⟩ = false := HH3.out.zero.free 2
                have d3 : w3.cell? ⟨w.heap.size, 3, none⟩ = some (.slice none 0 0) := HH3.out.zero.cell 3
                have f3 : w3.frozen? ⟨w.heap.size, 3, none⟩ = false := HH3.out.zero.free 3
                go_wp2
                exact bodyPost_ret (v := .agg #[.int .i64 6, .string ⟨#[]⟩, .int .i64 y, .slice none 0 0]) (by simp [results, Tryz.results27, go_sem, d0, d1, d2, d3]) rfl (Or.inl ⟨HXK.out, fin_bad HH3.out hpl 6 y ⟨#[]⟩ none 0 0 _ _ _ _⟩)
              · have HH3 := Lib.hid (HH2.out.read hr3 hg3 hrp)
                have HXK := Lib.hid (show rdOt (n + 1) (restOf s i) = some (.mk 6 v.num ⟨#[]⟩ [], restOf s j3) by rw [HX.out, rdNumO, hx, hrr])
                clear hr3 hg3 hx hrr
                have d0 : w3.cell? ⟨w.heap.size, 0, none⟩ = some (.int .i64 0) := HH3.out.zero.cell 0
                have f0 : w3.frozen? ⟨w.heap.size, 0, none⟩ = false := HH3.out.zero.free 0
                have d1 : w3.cell? ⟨w.heap.size, 1, none⟩ = some (.string ⟨#[]⟩) := HH3.out.zero.cell 1
                have f1 : w3.frozen? ⟨w.heap.size, 1, none⟩ = false := HH3.out.zero.free 1
                have d2 : w3.cell? ⟨w.heap.size, 2, none⟩ = some (.int .i64 0) := HH3.out.zero.cell 2
                have f2 : w3.frozen? ⟨w.heap.size, 2, none⟩ = false := HH3.out.zero.free 2
                have d3 : w3.cell? ⟨w.heap.size, 3, none⟩ = some (.slice none 0 0) := HH3.out.zero.cell 3
                have f3 : w3.frozen? ⟨w.heap.size, 3, none⟩ = false := HH3.out.zero.free 3
                go_wp2
                exact bodyPost_ret (v := .agg #[.int .i64 6, .string ⟨#[]⟩, .int .i64 v.num, .slice none 0 0]) (by simp [results, Tryz.results27, go_sem, d0, d1, d2, d3]) rfl (Or.inr ⟨_, _, HXK.out, fin_good HH3.out (OwnOt.leaf _ _ 6 v.num ⟨#[]⟩ (Nat.zero_le _)) hpl _ _ _ _⟩)
            | none =>
              have E6 := Lib.hid he
              have HT := Lib.hid (takeE_no p i s ⟨#[97, 116, 32]⟩ wx5 HH1.out.rd hs (by decide) he)
              clear he
              go_wp2_with fail
              refine HT.out.mono ?_
              rintro e wx6 ⟨rfl, hr2, hg2⟩
              have HH1 := Lib.hid (HH1.out.read hr2 hg2 hrp)
              clear hr2 hg2
              cases he : eats [97, 100, 100, 32] (restOf s i) with
              | some r =>
                obtain ⟨hle, rfl⟩ := eats_rest (p := ⟨#[97, 100, 100, 32]⟩) hil he
                have HT := Lib.hid (takeE_yes p i s ⟨#[97, 100, 100, 32]⟩ _ wx6 HH1.out.rd hs he)
                have HX := Lib.hid (show rdOt (n + 1) (restOf s i) = rdNumO 7 (restOf s (i + (⟨#[97, 100, 100, 32]⟩ : ByteArray).size)) by simp only [rdOt, E1.out, E2.out, E3.out, E4.out, E5.out, E6.out, he])
                clear he
                generalize i + (⟨#[97, 100, 100, 32]⟩ : ByteArray).size = j at *
                go_wp2_with fail
                refine HT.out.mono ?_
                rintro e w2 ⟨rfl, hr2, hg2⟩
                have HH2 := Lib.hid (HH1.out.read hr2 hg2 hrp)
                clear hr2 hg2
                have HN := Lib.hid (readNumO w2 p j s HH2.out.rd hs)
                go_wp2_with fail
                refine HN.out.mono ?_
                rintro e w3 (⟨hn, y, j3, rfl, hr3, hg3⟩ | ⟨v, r3, j3, hx, rfl, hrr, hr3, hg3⟩)
                · have HH3 := Lib.hid (HH2.out.read hr3 hg3 hrp)
                  have HXK := Lib.hid (show rdOt (n + 1) (restOf s i) = none by rw [HX.out, rdNumO, hn])
                  clear hr3 hg3 hn
                  have d0 : w3.cell? ⟨w.heap.size, 0, none⟩ = some (.int .i64 0) := HH3.out.zero.cell 0
                  have f0 : w3.frozen? ⟨w.heap.size, 0, none⟩ = false := HH3.out.zero.free 0
                  have d1 : w3.cell? ⟨w.heap.size, 1, none⟩ = some (.string ⟨#[]⟩) := HH3.out.zero.cell 1
                  have f1 : w3.frozen? ⟨w.heap.size, 1, none⟩ = false := HH3.out.zero.free 1
                  have d2 : w3.cell? ⟨w.heap.size, 2, none⟩ = some (.int .i64 0) := HH3.out.zero.cell 2
                  have f2 : w3.frozen? ⟨w.heap.size, 2, none⟩ = false := HH3.out.zero.free 2
                  have d3 : w3.cell? ⟨w.heap.size, 3, none⟩ = some (.slice none 0 0) := HH3.out.zero.cell 3
                  have f3 : w3.frozen? ⟨w.heap.size, 3, none⟩ = false := HH3.out.zero.free 3
                  go_wp2
                  exact bodyPost_ret (v := .agg #[.int .i64 7, .string ⟨#[]⟩, .int .i64 y, .slice none 0 0]) (by simp [results, Tryz.results27, go_sem, d0, d1, d2, d3]) rfl (Or.inl ⟨HXK.out, fin_bad HH3.out hpl 7 y ⟨#[]⟩ none 0 0 _ _ _ _⟩)
                · have HH3 := Lib.hid (HH2.out.read hr3 hg3 hrp)
                  have HXK := Lib.hid (show rdOt (n + 1) (restOf s i) = some (.mk 7 v.num ⟨#[]⟩ [], restOf s j3) by rw [HX.out, rdNumO, hx, hrr])
                  clear hr3 hg3 hx hrr
                  have d0 : w3.cell? ⟨w.heap.size, 0, none⟩ = some (.int .i64 0) := HH3.out.zero.cell 0
                  have f0 : w3.frozen? ⟨w.heap.size, 0, none⟩ = false := HH3.out.zero.free 0
                  have d1 : w3.cell? ⟨w.heap.size, 1, none⟩ = some (.string ⟨#[]⟩) := HH3.out.zero.cell 1
                  have f1 : w3.frozen? ⟨w.heap.size, 1, none⟩ = false := HH3.out.zero.free 1
                  have d2 : w3.cell? ⟨w.heap.size, 2, none⟩ = some (.int .i64 0) := HH3.out.zero.cell 2
                  have f2 : w3.frozen? ⟨w.heap.size, 2, none⟩ = false := HH3.out.zero.free 2
                  have d3 : w3.cell? ⟨w.heap.size, 3, none⟩ = some (.slice none 0 0) := HH3.out.zero.cell 3
                  have f3 : w3.frozen? ⟨w.heap.size, 3, none⟩ = false := HH3.out.zero.free 3
                  go_wp2
                  exact bodyPost_ret (v := .agg #[.int .i64 7, .string ⟨#[]⟩, .int .i64 v.num, .slice none 0 0]) (by simp [results, Tryz.results27, go_sem, d0, d1, d2, d3]) rfl (Or.inr ⟨_, _, HXK.out, fin_good HH3.out (OwnOt.leaf _ _ 7 v.num ⟨#[]⟩ (Nat.zero_le _)) hpl _ _ _ _⟩)
              | none =>
                have E7 := Lib.hid he
                have HT := Lib.hid (takeE_no p i s ⟨#[97, 100, 100, 32]⟩ wx6 HH1.out.rd hs (by decide) he)
                clear he
                go_wp2_with fail
                refine HT.out.mono ?_
                rintro e wx7 ⟨rfl, hr2, hg2⟩
                have HH1 := Lib.hid (HH1.out.read hr2 hg2 hrp)
                clear hr2 hg2
                cases he : eats [110, 111, 116] (restOf s i) with
                | some r =>
                  obtain ⟨hle, rfl⟩ := eats_rest (p := ⟨#[110, 111, 116]⟩) hil he
                  have HT := Lib.hid (takeE_yes p i s ⟨#[110, 111, 116]⟩ _ wx7 HH1.out.rd hs he)
                  have HX := Lib.hid (show rdOt (n + 1) (restOf s i) = some (.mk 8 0 ⟨#[]⟩ [], restOf s (i + (⟨#[110, 111, 116]⟩ : ByteArray).size)) by simp only [rdOt, E1.out, E2.out, E3.out, E4.out, E5.out, E6.out, E7.out, he])
                  clear he
                  generalize i + (⟨#[110, 111, 116]⟩ : ByteArray).size = j at *
                  go_wp2_with fail
                  refine HT.out.mono ?_
                  rintro e w2 ⟨rfl, hr2, hg2⟩
                  have HH2 := Lib.hid (HH1.out.read hr2 hg2 hrp)
                  clear hr2 hg2
                  have d0 : w2.cell? ⟨w.heap.size, 0, none⟩ = some (.int .i64 0) := HH2.out.zero.cell 0
                  have f0 : w2.frozen? ⟨w.heap.size, 0, none⟩ = false := HH2.out.zero.free 0
                  have d1 : w2.cell? ⟨w.heap.size, 1, none⟩ = some (.string ⟨#[]⟩) := HH2.out.zero.cell 1
                  have f1 : w2.frozen? ⟨w.heap.size, 1, none⟩ = false := HH2.out.zero.free 1
                  have d2 : w2.cell? ⟨w.heap.size, 2, none⟩ = some (.int .i64 0) := HH2.out.zero.cell 2
                  have f2 : w2.frozen? ⟨w.heap.size, 2, none⟩ = false := HH2.out.zero.free 2
                  have d3 : w2.cell? ⟨w.heap.size, 3, none⟩ = some (.slice none 0 0) := HH2.out.zero.cell 3
                  have f3 : w2.frozen? ⟨w.heap.size, 3, none⟩ = false := HH2.out.zero.free 3
                  go_wp2
                  exact bodyPost_ret (v := .agg #[.int .i64 8, .string ⟨#[]⟩, .int .i64 0, .slice none 0 0]) (by simp [results, Tryz.results27, go_sem, d0, d1, d2, d3]) rfl (Or.inr ⟨_, _, HX.out, fin_good HH2.out (OwnOt.leaf _ _ 8 0 ⟨#[]⟩ (Nat.zero_le _)) hpl _ _ _ _⟩)
                | none =>
                  have E8 := Lib.hid he
                  have HT := Lib.hid (takeE_no p i s ⟨#[110, 111, 116]⟩ wx7 HH1.out.rd hs (by decide) he)
                  clear he
                  go_wp2_with fail
                  refine HT.out.mono ?_
                  rintro e wx8 ⟨rfl, hr2, hg2⟩
                  have HH1 := Lib.hid (HH1.out.read hr2 hg2 hrp)
                  clear hr2 hg2
                  cases he : eats [114, 101, 118] (restOf s i) with
                  | some r =>
                    obtain ⟨hle, rfl⟩ := eats_rest (p := ⟨#[114, 101, 118]⟩) hil he
                    have HT := Lib.hid (takeE_yes p i s ⟨#[114, 101, 118]⟩ _ wx8 HH1.out.rd hs he)
                    have HX := Lib.hid (show rdOt (n + 1) (restOf s i) = some (.mk 9 0 ⟨#[]⟩ [], restOf s (i + (⟨#[114, 101, 118]⟩ : ByteArray).size)) by simp only [rdOt, E1.out, E2.out, E3.out, E4.out, E5.out, E6.out, E7.out, E8.out, he])
                    clear he
                    generalize i + (⟨#[114, 101, 118]⟩ : ByteArray).size = j at *
                    go_wp2_with fail
                    refine HT.out.mono ?_
                    rintro e w2 ⟨rfl, hr2, hg2⟩
                    have HH2 := Lib.hid (HH1.out.read hr2 hg2 hrp)
                    clear hr2 hg2
                    have d0 : w2.cell? ⟨w.heap.size, 0, none⟩ = some (.int .i64 0) := HH2.out.zero.cell 0
                    have f0 : w2.frozen? ⟨w.heap.size, 0, none⟩ = false := HH2.out.zero.free 0
                    have d1 : w2.cell? ⟨w.heap.size, 1, none⟩ = some (.string ⟨#[]⟩) := HH2.out.zero.cell 1
                    have f1 : w2.frozen? ⟨w.heap.size, 1, none⟩ = false := HH2.out.zero.free 1
                    have d2 : w2.cell? ⟨w.heap.size, 2, none⟩ = some (.int .i64 0) := HH2.out.zero.cell 2
                    have f2 : w2.frozen? ⟨w.heap.size, 2, none⟩ = false := HH2.out.zero.free 2
                    have d3 : w2.cell? ⟨w.heap.size, 3, none⟩ = some (.slice none 0 0) := HH2.out.zero.cell 3
                    have f3 : w2.frozen? ⟨w.heap.size, 3, none⟩ = false := HH2.out.zero.free 3
                    go_wp2
                    exact bodyPost_ret (v := .agg #[.int .i64 9, .string ⟨#[]⟩, .int .i64 0, .slice none 0 0]) (by simp [results, Tryz.results27, go_sem, d0, d1, d2, d3]) rfl (Or.inr ⟨_, _, HX.out, fin_good HH2.out (OwnOt.leaf _ _ 9 0 ⟨#[]⟩ (Nat.zero_le _)) hpl _ _ _ _⟩)
                  | none =>
                    have E9 := Lib.hid he
                    have HT := Lib.hid (takeE_no p i s ⟨#[114, 101, 118]⟩ wx8 HH1.out.rd hs (by decide) he)
                    clear he
                    go_wp2_with fail
                    refine HT.out.mono ?_
                    rintro e wx9 ⟨rfl, hr2, hg2⟩
                    have HH1 := Lib.hid (HH1.out.read hr2 hg2 hrp)
                    clear hr2 hg2
                    cases he : eats [119, 114, 97, 112, 32] (restOf s i) with
                    | some r =>
                      obtain ⟨hle, rfl⟩ := eats_rest (p := ⟨#[119, 114, 97, 112, 32]⟩) hil he
                      have HT := Lib.hid (takeE_yes p i s ⟨#[119, 114, 97, 112, 32]⟩ _ wx9 HH1.out.rd hs he)
                      have HX := Lib.hid (show rdOt (n + 1) (restOf s i) = rdNm 10 (restOf s (i + (⟨#[119, 114, 97, 112, 32]⟩ : ByteArray).size)) by simp only [rdOt, E1.out, E2.out, E3.out, E4.out, E5.out, E6.out, E7.out, E8.out, E9.out, he])
                      clear he
                      generalize i + (⟨#[119, 114, 97, 112, 32]⟩ : ByteArray).size = j at *
                      go_wp2_with fail
                      refine HT.out.mono ?_
                      rintro e w2 ⟨rfl, hr2, hg2⟩
                      have HH2 := Lib.hid (HH1.out.read hr2 hg2 hrp)
                      clear hr2 hg2
                      have HW := Lib.hid (word_any p j s false w2 HH2.out.rd hs)
                      go_wp2_with fail
                      refine HW.out.mono ?_
                      rintro e w3 ⟨k1, hk1, ⟨rfl, hr3, hg3⟩, hd3, ht3⟩
                      have HH3 := Lib.hid (HH2.out.read hr3 hg3 hrp)
                      have HXK := Lib.hid (show rdOt (n + 1) (restOf s i) = some (.mk 10 0 (s.extract j k1) [], restOf s k1) by rw [HX.out, rdNm, ht3, hd3])
                      have HN := Lib.hid (l7Named_any 10 (s.extract j k1) w3)
                      have hz3 := HH3.out.zero.lt
                      have hp3 := HH3.out.rd.lt
                      have hg3' := HH3.out.grown.size
                      have hwz : (s.extract j k1).size ≤ maxLen := by rw [ByteArray.size_extract]; unfold maxLen; omega
                      clear hr3 hg3 hd3 ht3
                      go_wp2_with fail
                      refine HN.out.mono ?_
                      rintro e w4 ⟨rfl, hb4⟩
                      have HH4 := Lib.hid (HH3.out.more hb4 hz3 hp3 hg3')
                      clear hb4
                      have d0 : w4.cell? ⟨w.heap.size, 0, none⟩ = some (.int .i64 0) := HH4.out.zero.cell 0
                      have f0 : w4.frozen? ⟨w.heap.size, 0, none⟩ = false := HH4.out.zero.free 0
                      have d1 : w4.cell? ⟨w.heap.size, 1, none⟩ = some (.string ⟨#[]⟩) := HH4.out.zero.cell 1
                      have f1 : w4.frozen? ⟨w.heap.size, 1, none⟩ = false := HH4.out.zero.free 1
                      have d2 : w4.cell? ⟨w.heap.size, 2, none⟩ = some (.int .i64 0) := HH4.out.zero.cell 2
                      have f2 : w4.frozen? ⟨w.heap.size, 2, none⟩ = false := HH4.out.zero.free 2
                      have d3 : w4.cell? ⟨w.heap.size, 3, none⟩ = some (.slice none 0 0) := HH4.out.zero.cell 3
                      have f3 : w4.frozen? ⟨w.heap.size, 3, none⟩ = false := HH4.out.zero.free 3
                      go_wp2
                      exact bodyPost_ret (v := .agg #[.int .i64 10, .string (s.extract j k1), .int .i64 0, .slice none 0 0]) (by simp [results, Tryz.results27, go_sem, d0, d1, d2, d3]) rfl (Or.inr ⟨_, _, HXK.out, fin_good HH4.out (OwnOt.leaf _ _ 10 0 _ hwz) hpl _ _ _ _⟩)
                    | none =>
                      have E10 := Lib.hid he
                      have HT := Lib.hid (takeE_no p i s ⟨#[119, 114, 97, 112, 32]⟩ wx9 HH1.out.rd hs (by decide) he)
                      clear he
                      go_wp2_with fail
                      refine HT.out.mono ?_
                      rintro e wx10 ⟨rfl, hr2, hg2⟩
                      have HH1 := Lib.hid (HH1.out.read hr2 hg2 hrp)
                      clear hr2 hg2
                      cases he : eats [109, 97, 112, 32] (restOf s i) with
                      | some r =>
                        obtain ⟨hle, rfl⟩ := eats_rest (p := ⟨#[109, 97, 112, 32]⟩) hil he
                        have HT := Lib.hid (takeE_yes p i s ⟨#[109, 97, 112, 32]⟩ _ wx10 HH1.out.rd hs he)
                        have HX := Lib.hid (show rdOt (n + 1) (restOf s i) = rdMapO (rdOt n) (restOf s (i + (⟨#[109, 97, 112, 32]⟩ : ByteArray).size)) by simp only [rdOt, E1.out, E2.out, E3.out, E4.out, E5.out, E6.out, E7.out, E8.out, E9.out, E10.out, he])
                        clear he
                        generalize i + (⟨#[109, 97, 112, 32]⟩ : ByteArray).size = j at *
                        go_wp2_with fail
                        refine HT.out.mono ?_
                        rintro e w2 ⟨rfl, hr2, hg2⟩
                        have HH2 := Lib.hid (HH1.out.read hr2 hg2 hrp)
                        clear hr2 hg2
                        cases hty : rdOt n (restOf s j) with
                        | none =>
                          have HXK := Lib.hid (show rdOt (n + 1) (restOf s i) = none by rw [HX.out, rdMapO, hty])
                          have HT2 := Lib.hid (H2.out.bad w2 p j s false HH2.out.rd hs (Or.inr hty))
                          clear hty
                          go_wp2_with fail
                          refine HT2.out.mono ?_
                          rintro e w3 ⟨x, nm, y, A, m, ac, j3, rfl, hr3, hg3⟩
                          have HH3 := HH2.out.read hr3 hg3 hrp
                          have hb4 := (Below.refl w3.heap.size w3).alloc (Nat.le_refl _) (.cells #[.int .i64 x, .string nm, .int .i64 y, .slice A m ac] 26)
                          have HH4 := Lib.hid (HH3.more hb4 HH3.zero.lt HH3.rd.lt HH3.grown.size)
                          clear hr3 hg3 HH3 hb4
                          have d0 : (w3.alloc (.cells #[.int .i64 x, .string nm, .int .i64 y, .slice A m ac] 26)).cell? ⟨w.heap.size, 0, none⟩ = some (.int .i64 0) := HH4.out.zero.cell 0
                          have f0 : (w3.alloc (.cells #[.int .i64 x, .string nm, .int .i64 y, .slice A m ac] 26)).frozen? ⟨w.heap.size, 0, none⟩ = false := HH4.out.zero.free 0
                          have d1 : (w3.alloc (.cells #[.int .i64 x, .string nm, .int .i64 y, .slice A m ac] 26)).cell? ⟨w.heap.size, 1, none⟩ = some (.string ⟨#[]⟩) := HH4.out.zero.cell 1
                          have f1 : (w3.alloc (.cells #[.int .i64 x, .string nm, .int .i64 y, .slice A m ac] 26)).frozen? ⟨w.heap.size, 1, none⟩ = false := HH4.out.zero.free 1
                          have d2 : (w3.alloc (.cells #[.int .i64 x, .string nm, .int .i64 y, .slice A m ac] 26)).cell? ⟨w.heap.size, 2, none⟩ = some (.int .i64 0) := HH4.out.zero.cell 2
                          have f2 : (w3.alloc (.cells #[.int .i64 x, .string nm, .int .i64 y, .slice A m ac] 26)).frozen? ⟨w.heap.size, 2, none⟩ = false := HH4.out.zero.free 2
                          have d3 : (w3.alloc (.cells #[.int .i64 x, .string nm, .int .i64 y, .slice A m ac] 26)).cell? ⟨w.heap.size, 3, none⟩ = some (.slice none 0 0) := HH4.out.zero.cell 3
                          have f3 : (w3.alloc (.cells #[.int .i64 x, .string nm, .int .i64 y, .slice A m ac] 26)).frozen? ⟨w.heap.size, 3, none⟩ = false := HH4.out.zero.free 3
                          go_wp2
                          exact bodyPost_ret (v := .agg #[.int .i64 11, .string ⟨#[]⟩, .int .i64 0, .slice (some ⟨w3.heap.size, 0, none⟩) 1 1]) (by simp [results, Tryz.results27, go_sem, d0, d1, d2, d3]) rfl (Or.inl ⟨HXK.out, fin_bad HH4.out hpl 11 0 ⟨#[]⟩ _ 1 1 _ _ _ _⟩)
                        | some tr =>
                          obtain ⟨t, q⟩ := tr
                          have HT2 := Lib.hid (H2.out.good w2 p j s t q HH2.out.rd hs hty)
                          have HTY := Lib.hid hty
                          have hs2 := HH2.out.grown.size
                          have hz2 := HH2.out.zero.lt
                          clear hty
                          go_wp2_with fail
                          refine HT2.out.mono ?_
                          rintro e w3 ⟨v, j3, rfl, hrr, hr3, hO3, hg3⟩
                          have hI3 := hO3.owned
                          obtain ⟨A, ac, rfl⟩ := hO3.open
                          have HXK := Lib.hid (show rdOt (n + 1) (restOf s i) = some (.mk 11 0 ⟨#[]⟩ [t], restOf s j3) by rw [HX.out, rdMapO, HTY.out, hrr])
                          have HH3 := HH2.out.read hr3 hg3 hrp
                          have hs3 := hg3.size
                          have HO4 := Lib.hid (own_oone (base := w.heap.size + 1) 11 0 ⟨#[]⟩ (Nat.zero_le _) (by omega) (by omega) (Nat.le_refl _) hI3)
                          have hb4 := (Below.refl w3.heap.size w3).alloc (Nat.le_refl _) (.cells #[.int .i64 t.kind, .string t.name, .int .i64 t.num, .slice A t.args.length ac] 26)
                          have HH4 := Lib.hid (HH3.more hb4 HH3.zero.lt HH3.rd.lt HH3.grown.size)
                          clear hr3 hg3 HH3 hb4 hO3 hI3 hrr
                          have d0 : (w3.alloc (.cells #[.int .i64 t.kind, .string t.name, .int .i64 t.num, .slice A t.args.length ac] 26)).cell? ⟨w.heap.size, 0, none⟩ = some (.int .i64 0) := HH4.out.zero.cell 0
                          have f0 : (w3.alloc (.cells #[.int .i64 t.kind, .string t.name, .int .i64 t.num, .slice A t.args.length ac] 26)).frozen? ⟨w.heap.size, 0, none⟩ = false := HH4.out.zero.free 0
                          have d1 : (w3.alloc (.cells #[.int .i64 t.kind, .string t.name, .int .i64 t.num, .slice A t.args.length ac] 26)).cell? ⟨w.heap.size, 1, none⟩ = some (.string ⟨#[]⟩) := HH4.out.zero.cell 1
                          have f1 : (w3.alloc (.cells #[.int .i64 t.kind, .string t.name, .int .i64 t.num, .slice A t.args.length ac] 26)).frozen? ⟨w.heap.size, 1, none⟩ = false := HH4.out.zero.free 1
                          have d2 : (w3.alloc (.cells #[.int .i64 t.kind, .string t.name, .int .i64 t.num, .slice A t.args.length ac] 26)).cell? ⟨w.heap.size, 2, none⟩ = some (.int .i64 0) := HH4.out.zero.cell 2
                          have f2 : (w3.alloc (.cells #[.int .i64 t.kind, .string t.name, .int .i64 t.num, .slice A t.args.length ac] 26)).frozen? ⟨w.heap.size, 2, none⟩ = false := HH4.out.zero.free 2
                          have d3 : (w3.alloc (.cells #[.int .i64 t.kind, .string t.name, .int .i64 t.num, .slice A t.args.length ac] 26)).cell? ⟨w.heap.size, 3, none⟩ = some (.slice none 0 0) := HH4.out.zero.cell 3
                          have f3 : (w3.alloc (.cells #[.int .i64 t.kind, .string t.name, .int .i64 t.num, .slice A t.args.length ac] 26)).frozen? ⟨w.heap.size, 3, none⟩ = false := HH4.out.zero.free 3
                          go_wp2
                          exact bodyPost_ret (v := .agg #[.int .i64 11, .string ⟨#[]⟩, .int .i64 0, .slice (some ⟨w3.heap.size, 0, none⟩) 1 1]) (by simp [results, Tryz.results27, go_sem, d0, d1, d2, d3]) rfl (Or.inr ⟨_, _, HXK.out, fin_good HH4.out HO4.out hpl _ _ _ _⟩)
                      | none =>
                        have E11 := Lib.hid he
                        have HT := Lib.hid (takeE_no p i s ⟨#[109, 97, 112, 32]⟩ wx10 HH1.out.rd hs (by decide) he)
                        clear he
                        go_wp2_with fail
                        refine HT.out.mono ?_
                        rintro e wx11 ⟨rfl, hr2, hg2⟩
                        have HH1 := Lib.hid (HH1.out.read hr2 hg2 hrp)
                        clear hr2 hg2
                        by_cases h40 : ∃ hk : i < s.size, s[i] = 40
                        · obtain ⟨hk, hc⟩ := h40
                          have HX := Lib.hid (show rdOt (n + 1) (restOf s i) = rdTwo (rdOt n) (restOf s (i + 1)) by simp only [rdOt, E1.out, E2.out, E3.out, E4.out, E5.out, E6.out, E7.out, E8.out, E9.out, E10.out, E11.out, eat_hit hk hc])
                          have HMU := Lib.hid (must_yes p i s 40 wx11 HH1.out.rd hs hk hc)
                          clear hc
                          go_wp2_with fail
                          refine HMU.out.mono ?_
                          rintro e w2 ⟨rfl, hr2, hg2⟩
                          have HH2 := Lib.hid (HH1.out.read hr2 hg2 hrp)
                          have b2 : w2.cell? ⟨p, 2, none⟩ = some (.bool false) := Whole1.cell hr2.1 2
                          have HTW := Lib.hid (readTwo n (d + 1) H2.out w2 p (i + 1) s HH2.out.rd hs)
                          have hs2 := HH2.out.grown.size
                          have hz2 := HH2.out.zero.lt
                          clear hr2 hg2
                          go_wp2_with fail
                          refine HTW.out.mono ?_
                          rintro e w3 (⟨hn, x, nm, y, A, m, ac, j3, rfl, hr3, hg3⟩ | ⟨t, r, hx, v, j3, rfl, hrr, hr3, hO3, hg3⟩)
                          · have HH3 := Lib.hid (HH2.out.read hr3 hg3 hrp)
                            have HXK := Lib.hid (HX.out.trans hn)
                            clear hr3 hg3 hn
                            have d0 : w3.cell? ⟨w.heap.size, 0, none⟩ = some (.int .i64 0) := HH3.out.zero.cell 0
                            have f0 : w3.frozen? ⟨w.heap.size, 0, none⟩ = false := HH3.out.zero.free 0
                            have d1 : w3.cell? ⟨w.heap.size, 1, none⟩ = some (.string ⟨#[]⟩) := HH3.out.zero.cell 1
                            have f1 : w3.frozen? ⟨w.heap.size, 1, none⟩ = false := HH3.out.zero.free 1
                            have d2 : w3.cell? ⟨w.heap.size, 2, none⟩ = some (.int .i64 0) := HH3.out.zero.cell 2
                            have f2 : w3.frozen? ⟨w.heap.size, 2, none⟩ = false := HH3.out.zero.free 2
                            have d3 : w3.cell? ⟨w.heap.size, 3, none⟩ = some (.slice none 0 0) := HH3.out.zero.cell 3
                            have f3 : w3.frozen? ⟨w.heap.size, 3, none⟩ = false := HH3.out.zero.free 3
                            go_wp2
                            exact bodyPost_ret (v := .agg #[.int .i64 x, .string nm, .int .i64 y, .slice A m ac]) (by simp [results, Tryz.results27, go_sem, d0, d1, d2, d3]) rfl (Or.inl ⟨HXK.out, fin_bad HH3.out hpl x y nm A m ac _ _ _ _⟩)
                          · have HO3 := Lib.hid (hO3.base (base0 := w.heap.size + 1) (by omega))
                            obtain ⟨A, ac, rfl⟩ := hO3.open
                            have HH3 := Lib.hid (HH2.out.read hr3 hg3 hrp)
                            have HXK := Lib.hid (show rdOt (n + 1) (restOf s i) = some (t, restOf s j3) by rw [HX.out, hx, hrr])
                            clear hr3 hg3 hx hrr hO3
                            have d0 : w3.cell? ⟨w.heap.size, 0, none⟩ = some (.int .i64 0) := HH3.out.zero.cell 0
                            have f0 : w3.frozen? ⟨w.heap.size, 0, none⟩ = false := HH3.out.zero.free 0
                            have d1 : w3.cell? ⟨w.heap.size, 1, none⟩ = some (.string ⟨#[]⟩) := HH3.out.zero.cell 1
                            have f1 : w3.frozen? ⟨w.heap.size, 1, none⟩ = false := HH3.out.zero.free 1
                            have d2 : w3.cell? ⟨w.heap.size, 2, none⟩ = some (.int .i64 0) := HH3.out.zero.cell 2
                            have f2 : w3.frozen? ⟨w.heap.size, 2, none⟩ = false := HH3.out.zero.free 2
                            have d3 : w3.cell? ⟨w.heap.size, 3, none⟩ = some (.slice none 0 0) := HH3.out.zero.cell 3
                            have f3 : w3.frozen? ⟨w.heap.size, 3, none⟩ = false := HH3.out.zero.free 3
                            go_wp2
                            exact bodyPost_ret (v := .agg #[.int .i64 t.kind, .string t.name, .int .i64 t.num, .slice A t.args.length ac]) (by simp [results, Tryz.results27, go_sem, d0, d1, d2, d3]) rfl (Or.inr ⟨_, _, HXK.out, fin_good HH3.out HO3.out hpl _ _ _ _⟩)
                        · have HX := Lib.hid (show rdOt (n + 1) (restOf s i) = none by simp only [rdOt, E1.out, E2.out, E3.out, E4.out, E5.out, E6.out, E7.out, E8.out, E9.out, E10.out, E11.out, eat_miss h40])
                          have HMU := Lib.hid (must_no p i s false 40 wx11 HH1.out.rd hs (Or.inr (eat_miss h40)))
                          clear h40
                          go_wp2_with fail
                          refine HMU.out.mono ?_
                          rintro e w2 ⟨rfl, hr2, hg2⟩
                          have HH2 := Lib.hid (HH1.out.read hr2 hg2 hrp)
                          have b2 : w2.cell? ⟨p, 2, none⟩ = some (.bool true) := Whole1.cell hr2.1 2
                          clear hr2 hg2
                          have d0 : w2.cell? ⟨w.heap.size, 0, none⟩ = some (.int .i64 0) := HH2.out.zero.cell 0
                          have f0 : w2.frozen? ⟨w.heap.size, 0, none⟩ = false := HH2.out.zero.free 0
                          have d1 : w2.cell? ⟨w.heap.size, 1, none⟩ = some (.string ⟨#[]⟩) := HH2.out.zero.cell 1
                          have f1 : w2.frozen? ⟨w.heap.size, 1, none⟩ = false := HH2.out.zero.free 1
                          have d2 : w2.cell? ⟨w.heap.size, 2, none⟩ = some (.int .i64 0) := HH2.out.zero.cell 2
                          have f2 : w2.frozen? ⟨w.heap.size, 2, none⟩ = false := HH2.out.zero.free 2
                          have d3 : w2.cell? ⟨w.heap.size, 3, none⟩ = some (.slice none 0 0) := HH2.out.zero.cell 3
                          have f3 : w2.frozen? ⟨w.heap.size, 3, none⟩ = false := HH2.out.zero.free 3
                          go_wp2
                          exact bodyPost_ret (v := .agg #[.int .i64 0, .string ⟨#[]⟩, .int .i64 0, .slice none 0 0]) (by simp [results, Tryz.results27, go_sem, d0, d1, d2, d3]) rfl (Or.inl ⟨HX.out, fin_bad HH2.out hpl 0 0 ⟨#[]⟩ none 0 0 _ _ _ _⟩)

theorem typeOne : ∀ (n : Nat), n ≤ 10 → TypeOne n (11 - (n : Int))
  | 0, _ => TypeOne.of (fun w p i s hr hs => type_stops _ w p i s true hr (.inl rfl)) (fun w p i s hr hs => (type_stops _ w p i s false hr (.inr (by decide))).mono fun e w' h => .inl ⟨rfl, h⟩)
  | n + 1, hn => TypeOne.of (fun w p i s hr hs => type_stops _ w p i s true hr (.inl rfl)) (fun w p i s hr hs => type_reads n _ (decide_eq_false (by omega)) (by rw [IntKind.wrap_i64]; omega) (by have h := typeOne n (by omega); rw [show (11 : Int) - ((n + 1 : Nat) : Int) + 1 = 11 - (n : Int) by omega]; exact h) w p i s hr hs)

end Go.Proofs.YtlmbnefoobameaaGreatDoor.OR
end

section
namespace Go.Proofs.YtlmbnefoobameaaGreatDoor
open Go.RowKit

abbrev zeroOt : Ot := .mk 0 0 ⟨#[]⟩ []
/-- The optic of the text, or nothing, is handed back. -/
def ParsePostO (s : ByteArray) (w : World) (e : Ending) (w' : World) : Prop :=
  ∃ v, e = .returned (.tuple #[v, .bool (parseOB s).isSome]) ∧ OtIn w' (Span w.heap.size w'.heap.size) v ((parseOB s).getD zeroOt) ∧ Below w.heap.size w w'
theorem oIn_set4 {w W : World} {lo hi : Nat} {v : Value} {t : Ot} (h : OtIn W (Span lo hi) v t) (hlo : w.heap.size + 1 ≤ lo) (hhi : hi ≤ W.heap.size) (a b c d : Value) : OtIn ((((W.setCell ⟨w.heap.size, 0, none⟩ a).setCell ⟨w.heap.size, 1, none⟩ b).setCell ⟨w.heap.size, 2, none⟩ c).setCell ⟨w.heap.size, 3, none⟩ d) (Span w.heap.size ((((W.setCell ⟨w.heap.size, 0, none⟩ a).setCell ⟨w.heap.size, 1, none⟩ b).setCell ⟨w.heap.size, 2, none⟩ c).setCell ⟨w.heap.size, 3, none⟩ d).heap.size) v t :=
  (h.keep fun q hq _ => oset4_keep _ _ _ _ _ _ _ (by have := hq.1; omega)).wide fun q hq => ⟨by have := hq.1; omega, by have := hq.2; simp [World.setCell]; omega⟩
theorem ozero_in (w : World) (S : Nat → Prop) : OtIn w S (.agg #[.int .i64 0, .string ⟨#[]⟩, .int .i64 0, .slice none 0 0]) zeroOt :=
  .mk 1 (fun _ => .nilFunc) (fun _ _ => False) (Nat.zero_le _) (Nat.zero_le _) (.inl rfl) (fun i h => absurd h (by simp)) (fun i _ h => absurd h (by simp)) (fun i h => absurd h (by simp))
theorem parseO_sz (s : ByteArray) : szOt ((parseOB s).getD zeroOt) ≤ s.size := by
  unfold parseOB
  split
  · rename_i t e
    obtain ⟨h1, h2⟩ := rdOt_sound 10 _ _ _ e
    have h4 := congrArg List.length h1
    have h3 : s.data.toList.length = s.size := by simp
    rw [List.append_nil, h3] at h4
    split
    · show szOt t ≤ s.size
      omega
    · simp [zeroOt, szOt, szOts, emptySize0]
  · simp [zeroOt, szOt, szOts, emptySize0]

end Go.Proofs.YtlmbnefoobameaaGreatDoor
end

section
namespace Go.Proofs.YtlmbnefoobameaaGreatDoor
open Go.RowKit
attribute [local go_sem ↓] Go.wp_at_zero Go.wp_at_succ

theorem rest_zeroO (s : ByteArray) : restOf s 0 = s.data.toList := by simp [restOf]
theorem below_readerO {w w1 W : World} {p : Nat} (hb : Below w.heap.size w w1) (hg : w1.grownBy W (some p)) (hp : w.heap.size ≤ p) : Below w.heap.size w W :=
  ⟨hg.os.trans hb.os, hg.tape.trans hb.tape, hg.output.trans hb.output, Nat.le_trans hb.size hg.size, fun q hq => (hg.block q (Nat.lt_of_lt_of_le hq hb.size) (fun e => by injection e with e; omega)).trans (hb.block q hq)⟩

set_option maxHeartbeats 4000000 in
set_option maxRecDepth 100000 in
theorem specParseO_any (s : ByteArray) (w : World) (hs : s.size ≤ 1048576) : Calls Tryz.prog 12 #[.string s] w (ParsePostO s w) := by
  obtain ⟨hb0, r0, q0, hs0⟩ := boxes2 w 26 52 #[.int .i64 0, .string ⟨#[]⟩, .int .i64 0, .slice none 0 0] #[.string s, .int .i64 0, .bool false]
  have HT : OR.TypeOne 10 1 := OR.typeOne 10 (Nat.le_refl _)
  have hR : RdAt ((w.alloc (.cells #[.int .i64 0, .string ⟨#[]⟩, .int .i64 0, .slice none 0 0] 26)).alloc (.cells #[.string s, .int .i64 0, .bool false] 52)) (w.heap.size + 1) s 0 false := ⟨q0, Nat.zero_le _⟩
  have HQ := Lib.hid hR
  have HRZ := Lib.hid r0
  have HSZ := Lib.hid hs0
  cases hrd : rdOt 10 (restOf s 0) with
  | none =>
    have HNO : Hid (parseOB s = none) := Lib.hid (by
      unfold parseOB
      rw [← rest_zeroO, hrd])
    have HC := Lib.hid (HT.bad _ _ 0 s false hR hs (.inr hrd))
    clear hR HT r0 q0 hs0 hrd
    go_enter Tryz.func12, Tryz.ntmps12
    go_wp2_with fail
    generalize (w.alloc (.cells #[.int .i64 0, .string ⟨#[]⟩, .int .i64 0, .slice none 0 0] 26)).alloc (.cells #[.string s, .int .i64 0, .bool false] 52) = w1 at *
    refine HC.out.mono ?_
    rintro e w2 ⟨x, nm, y, A, m, ac, j, rfl, hr2, hg2⟩
    have hb2 := below_readerO hb0 hg2 (by omega)
    have hzl := HRZ.out.lt
    have hz2 : OR.ZeroBox w2 w.heap.size := (hg2.block w.heap.size hzl (fun e => by injection e with e; omega)).trans HRZ.out
    have hb3 := (Below.refl w2.heap.size w2).alloc (Nat.le_refl _) (.cells #[.int .i64 x, .string nm, .int .i64 y, .slice A m ac] 26)
    have hr3 := hr2.below hb3 hr2.lt
    have hz3 := hz2.below hb3 hz2.lt
    have hB3 := hb2.trans (hb3.mono hb2.size)
    clear hr2 hz2 hb3 hb2 hg2
    go_upto_region 3 with fail
    generalize w2.alloc (.cells #[.int .i64 x, .string nm, .int .i64 y, .slice A m ac] 26) = w3 at *
    have b2 : w3.cell? ⟨w.heap.size + 1, 2, none⟩ = some (.bool true) := Whole1.cell hr3.1 2
    have d0 : w3.cell? ⟨w.heap.size, 0, none⟩ = some (.int .i64 0) := (hz3).cell 0
    have d1 : w3.cell? ⟨w.heap.size, 1, none⟩ = some (.string ⟨#[]⟩) := (hz3).cell 1
    have d2 : w3.cell? ⟨w.heap.size, 2, none⟩ = some (.int .i64 0) := (hz3).cell 2
    have d3 : w3.cell? ⟨w.heap.size, 3, none⟩ = some (.slice none 0 0) := (hz3).cell 3
    have f0 : w3.frozen? ⟨w.heap.size, 0, none⟩ = false := (hz3).free 0
    have f1 : w3.frozen? ⟨w.heap.size, 1, none⟩ = false := (hz3).free 1
    have f2 : w3.frozen? ⟨w.heap.size, 2, none⟩ = false := (hz3).free 2
    have f3 : w3.frozen? ⟨w.heap.size, 3, none⟩ = false := (hz3).free 3
    have HB3 := Lib.hid hB3
    clear hr3 hz3 hB3
    go_wp2
    exact bodyPost_ret (v := .tuple #[.agg #[.int .i64 0, .string ⟨#[]⟩, .int .i64 0, .slice none 0 0], .bool false]) (by simp [results, Tryz.results12, go_sem, d0, d1, d2, d3]) rfl ⟨_, by rw [HNO.out]; rfl, by rw [HNO.out]; exact ozero_in _ _, HB3.out.trans (oset4_below _ _ _ _ _ _)⟩
  | some tr =>
    obtain ⟨t, r⟩ := tr
    have hsd := rdOt_sound 10 _ _ _ hrd
    rw [rest_zeroO] at hsd
    have hlen : (txtO t).length ≤ s.size := by
      have h1 := congrArg List.length hsd.1
      rw [List.length_append] at h1
      have h2 : s.data.toList.length = s.size := by simp
      omega
    have HSD := Lib.hid hsd.1
    have hszt : szOt t ≤ 1048576 := by have := hsd.2; omega
    have hpos : 1 ≤ s.size := by have := hsd.2; omega
    have HRD := Lib.hid hrd
    have HC := Lib.hid (HT.good _ _ 0 s t r hR hs hrd)
    clear hR HT r0 q0 hs0 hrd hsd
    go_enter Tryz.func12, Tryz.ntmps12
    go_wp2_with fail
    generalize (w.alloc (.cells #[.int .i64 0, .string ⟨#[]⟩, .int .i64 0, .slice none 0 0] 26)).alloc (.cells #[.string s, .int .i64 0, .bool false] 52) = w1 at *
    refine HC.out.mono ?_
    rintro e w2 ⟨v, j, rfl, hrr, hr2, hO2, hg2⟩
    have hI2 := hO2.owned
    obtain ⟨A, ac, rfl⟩ := hO2.open
    have hb2 := below_readerO hb0 hg2 (by omega)
    have hzl := HRZ.out.lt
    have hs1 := hb0.size
    have hz2 : OR.ZeroBox w2 w.heap.size := (hg2.block w.heap.size hzl (fun e => by injection e with e; omega)).trans HRZ.out
    obtain ⟨hb3, t3, hs3⟩ := boxes1 w2 26 #[.int .i64 t.kind, .string t.name, .int .i64 t.num, .slice A t.args.length ac]
    have hr3 := hr2.below hb3 hr2.lt
    have hz3 := hz2.below hb3 hz2.lt
    have hB3 := hb2.trans (hb3.mono hb2.size)
    have hI3 := hI2.keep (w' := w2.alloc (.cells #[.int .i64 t.kind, .string t.name, .int .i64 t.num, .slice A t.args.length ac] 26)) fun b hb hl => hb3.block b hl
    have hg2s := hg2.size
    clear hr2 hz2 hb2 hg2 hI2 hO2
    go_upto_region 3 with fail
    have HS3 := Lib.hid hs3
    clear hs3
    generalize w2.alloc (.cells #[.int .i64 t.kind, .string t.name, .int .i64 t.num, .slice A t.args.length ac] 26) = w3 at *
    have hjl := hr3.2
    have b1 : w3.cell? ⟨w.heap.size + 1, 1, none⟩ = some (.int .i64 (j : Int)) := Whole1.cell hr3.1 1
    have b2 : w3.cell? ⟨w.heap.size + 1, 2, none⟩ = some (.bool false) := Whole1.cell hr3.1 2
    have e0 : w3.cell? ⟨w2.heap.size, 0, none⟩ = some (.int .i64 t.kind) := t3.cell 0
    have e1 : w3.cell? ⟨w2.heap.size, 1, none⟩ = some (.string t.name) := t3.cell 1
    have e2 : w3.cell? ⟨w2.heap.size, 2, none⟩ = some (.int .i64 t.num) := t3.cell 2
    have e3 : w3.cell? ⟨w2.heap.size, 3, none⟩ = some (.slice A t.args.length ac) := t3.cell 3
    have HB3 := Lib.hid hB3
    have HT3 := Lib.hid t3
    have HZ3 := Lib.hid hz3
    have HI3 := Lib.hid hI3
    by_cases hj : j = s.size
    · subst hj
      have hr0 : r = [] := by rw [hrr]; exact restOf_end s _ (Nat.le_refl _)
      subst hr0
      have hst : s = ⟨(txtO t).toArray⟩ := by
        apply ByteArray.ext
        apply Array.toList_inj.1
        have := HSD.out
        rw [List.append_nil] at this
        rw [this]
      have HST := Lib.hid hst
      have HF := Lib.hid (specFormatO_any t _ w3 hI3.here hszt)
      have hneq : ((s.size : Int) == (s.size : Int)) = true := by simp
      clear hB3 hr3 hz3 hI3 hst hrr t3
      go_wp2_with fail
      refine HF.out.mono ?_
      rintro e w4 ⟨rfl, hb4⟩
      have HB4 := Lib.hid (HB3.out.trans (hb4.mono HB3.out.size))
      have hz4 := HZ3.out.below hb4 HZ3.out.lt
      have HI4 := Lib.hid (HI3.out.keep fun b hb hl => hb4.block b hl)
      have hs4 := hb4.size
      have t4 := HT3.out.below hb4 HT3.out.lt
      have q0 : w4.cell? ⟨w2.heap.size, 0, none⟩ = some (.int .i64 t.kind) := t4.cell 0
      have q1 : w4.cell? ⟨w2.heap.size, 1, none⟩ = some (.string t.name) := t4.cell 1
      have q2 : w4.cell? ⟨w2.heap.size, 2, none⟩ = some (.int .i64 t.num) := t4.cell 2
      have q3 : w4.cell? ⟨w2.heap.size, 3, none⟩ = some (.slice A t.args.length ac) := t4.cell 3
      have d0 : w4.cell? ⟨w.heap.size, 0, none⟩ = some (.int .i64 0) := (hz4).cell 0
      have d1 : w4.cell? ⟨w.heap.size, 1, none⟩ = some (.string ⟨#[]⟩) := (hz4).cell 1
      have d2 : w4.cell? ⟨w.heap.size, 2, none⟩ = some (.int .i64 0) := (hz4).cell 2
      have d3 : w4.cell? ⟨w.heap.size, 3, none⟩ = some (.slice none 0 0) := (hz4).cell 3
      have f0 : w4.frozen? ⟨w.heap.size, 0, none⟩ = false := (hz4).free 0
      have f1 : w4.frozen? ⟨w.heap.size, 1, none⟩ = false := (hz4).free 1
      have f2 : w4.frozen? ⟨w.heap.size, 2, none⟩ = false := (hz4).free 2
      have f3 : w4.frozen? ⟨w.heap.size, 3, none⟩ = false := (hz4).free 3
      have hs3 := HS3.out
      cases hvb : opticB t
      · have hfb : formatOB t = ⟨#[]⟩ := by unfold formatOB; rw [hvb]; rfl
        have HNO : Hid (parseOB s = none) := Lib.hid (by
          unfold parseOB
          rw [← rest_zeroO, HRD.out]
          simp [hvb])
        have hne : ((formatOB t).toList == s.toList) = false := by
          rw [hfb, beq_eq_false_iff_ne, ByteArray.toList_eq, ByteArray.toList_eq]
          intro e
          have h1 := congrArg List.length e
          have h2 : s.data.toList.length = s.size := by simp
          rw [h2] at h1
          simp at h1
          omega
        clear hfb hvb hz4 t4 e0 e1 e2 e3 b1 b2
        generalize formatOB t = fb at *
        go_wp2
        exact bodyPost_ret (v := .tuple #[.agg #[.int .i64 0, .string ⟨#[]⟩, .int .i64 0, .slice none 0 0], .bool false]) (by simp [results, Tryz.results12, go_sem, d0, d1, d2, d3]) rfl ⟨_, by rw [HNO.out]; rfl, by rw [HNO.out]; exact ozero_in _ _, HB4.out.trans (oset4_below _ _ _ _ _ _)⟩
      · have hfb : formatOB t = s := by unfold formatOB; rw [hvb, HST.out]; rfl
        have HYES : Hid (parseOB s = some t) := Lib.hid (by
          unfold parseOB
          rw [← rest_zeroO, HRD.out]
          simp [hvb])
        have hne : ((formatOB t).toList == s.toList) = true := by rw [hfb]; simp
        clear hvb hz4 t4 e0 e1 e2 e3 b1 b2
        generalize formatOB t = fb at *
        go_wp2
        exact bodyPost_ret (v := .tuple #[.agg #[.int .i64 t.kind, .string t.name, .int .i64 t.num, .slice A t.args.length ac], .bool true]) (by simp [results, Tryz.results12, go_sem, d0, d1, d2, d3]) rfl ⟨_, by rw [HYES.out]; rfl, by rw [HYES.out]; exact oIn_set4 HI4.out (by omega) (by omega) _ _ _ _, HB4.out.trans (oset4_below _ _ _ _ _ _)⟩
    · have hneq : ((j : Int) == (s.size : Int)) = false := by rw [beq_eq_false_iff_ne]; omega
      have HNO : Hid (parseOB s = none) := Lib.hid (by
        have hne : r ≠ [] := by
          intro e
          have := congrArg List.length (hrr.symm.trans e)
          rw [restOf_len] at this
          simp at this
          omega
        unfold parseOB
        rw [← rest_zeroO, HRD.out]
        cases r with
        | nil => exact absurd rfl hne
        | cons a q => rfl)
      have d0 : w3.cell? ⟨w.heap.size, 0, none⟩ = some (.int .i64 0) := (hz3).cell 0
      have d1 : w3.cell? ⟨w.heap.size, 1, none⟩ = some (.string ⟨#[]⟩) := (hz3).cell 1
      have d2 : w3.cell? ⟨w.heap.size, 2, none⟩ = some (.int .i64 0) := (hz3).cell 2
      have d3 : w3.cell? ⟨w.heap.size, 3, none⟩ = some (.slice none 0 0) := (hz3).cell 3
      have f0 : w3.frozen? ⟨w.heap.size, 0, none⟩ = false := (hz3).free 0
      have f1 : w3.frozen? ⟨w.heap.size, 1, none⟩ = false := (hz3).free 1
      have f2 : w3.frozen? ⟨w.heap.size, 2, none⟩ = false := (hz3).free 2
      have f3 : w3.frozen? ⟨w.heap.size, 3, none⟩ = false := (hz3).free 3
      clear hB3 hr3 hz3 hI3 t3
      go_wp2
      exact bodyPost_ret (v := .tuple #[.agg #[.int .i64 0, .string ⟨#[]⟩, .int .i64 0, .slice none 0 0], .bool false]) (by simp [results, Tryz.results12, go_sem, d0, d1, d2, d3]) rfl ⟨_, by rw [HNO.out]; rfl, by rw [HNO.out]; exact ozero_in _ _, HB3.out.trans (oset4_below _ _ _ _ _ _)⟩

end Go.Proofs.YtlmbnefoobameaaGreatDoor
end

section
namespace Go.Proofs.YtlmbnefoobameaaGreatDoor
set_option maxRecDepth 100000
open Go.RowKit

def plP : Pl → Value | none => .pointer none | some (g, _) => .pointer (some ⟨g, 0, none⟩)
def plN : Pl → Value | none => .int .i64 0 | some (_, n) => .int .i64 (n : Int)
theorem plVal_eq (k : Pl) : plVal k = .agg #[plP k, plN k] := by
  match k with
  | none => rfl
  | some (g, n) => rfl
def pl2Val (k : Pl × Pl) : Value := .agg #[plP k.1, plN k.1, plP k.2, plN k.2]
def Pl2Ok (w1 : World) (B mb : Nat) (k : Pl × Pl) : Prop := PlOk w1 B mb k.1 ∧ PlOk w1 B mb k.2

theorem bits_plP (k : Pl) (n : Nat) : Instr.sameBits n (plP k) (plP k) = true := by
  match k with
  | none => simp [plP, Instr.sameBits]
  | some (g, m) => simp [plP, Instr.sameBits]
theorem bits_plN (k : Pl) (n : Nat) : Instr.sameBits n (plN k) (plN k) = true := by
  match k with
  | none => simp [plN, Instr.sameBits]
  | some (g, m) => simp [plN, Instr.sameBits]

end Go.Proofs.YtlmbnefoobameaaGreatDoor

namespace Go.Proofs.YtlmbnefoobameaaGreatDoor
set_option maxRecDepth 100000
open Go.RowKit

/-- The same node? -/
def nodesB (a b : Ty) : Bool := decide (a.kind = b.kind) && textsB a.labels b.labels

end Go.Proofs.YtlmbnefoobameaaGreatDoor

namespace Go.Proofs.YtlmbnefoobameaaGreatDoor
set_option maxRecDepth 100000
open Go.RowKit

/-- Two trees, and how they lie in cells. -/
structure Pr where
  x : Ty
  y : Ty
  L : Option Addr
  l : Nat
  A : Option Addr
  a : Nat
  L' : Option Addr
  l' : Nat
  A' : Option Addr
  a' : Nat

def prCells (p : Pr) : List Value := [.int .i64 p.x.kind, .slice p.L p.x.labels.length p.l, .slice p.A p.x.args.length p.a, .int .i64 p.y.kind, .slice p.L' p.y.labels.length p.l', .slice p.A' p.y.args.length p.a']
def pCells : List Pr → List Value | [] => [] | p :: r => pCells r ++ prCells p
theorem pCells_len : ∀ l : List Pr, (pCells l).length = l.length * 6
  | [] => rfl
  | f :: r => by
    rw [pCells, List.length_append, pCells_len r]
    simp [prCells]
    omega
def pSize : List Pr → Nat | [] => 0 | p :: r => sizeTy p.x + pSize r
theorem pSize_len : ∀ l : List Pr, l.length ≤ pSize l
  | [] => Nat.le_refl _
  | p :: r => by
    have := pSize_len r
    have := sizeTy_eq p.x
    rw [pSize, List.length_cons]
    omega

section
variable {w1 wc w : World} {B mb : Nat} {a0 b0 : Ty} {v : Value} {p : Pr} {r stk : List Pr} {F : Pl × Pl → Option Value}

theorem same_of (h1 : nodesB p.x p.y = true) (h2 : p.x.args = p.y.args) : p.x = p.y := by
  unfold nodesB at h1
  rw [Bool.and_eq_true_iff] at h1
  have h3 := of_decide_eq_true h1.1
  have h4 := h1.2
  unfold textsB at h4
  exact Ty.ext h3 (of_decide_eq_true h4) h2

end

/-- The row's last six cells. -/
theorem row_top6 {w : World} {B n : Nat} {T : TypeId} {v : Value} {xs : List Value} {a b c d e f : Value} (h : w.ownsRow B T 6 v (n + 1) (xs ++ [a, b, c, d, e, f])) (hx : xs.length = n * 6) :
    ∃ q cap cur, v = .slice (some ⟨q, 0, none⟩) (n + 1) cap ∧ B ≤ q ∧ Whole1 w q T cur ∧ n + 1 ≤ cap ∧ w.ownsRow B T 6 (.slice (some ⟨q, 0, none⟩) n cap) n xs ∧ cur[n * 6]? = some a ∧ cur[n * 6 + 1]? = some b ∧ cur[n * 6 + 2]? = some c ∧ cur[n * 6 + 3]? = some d ∧ cur[n * 6 + 4]? = some e ∧ cur[n * 6 + 5]? = some f := by
  rcases h.2 with ⟨_, h0⟩ | ⟨q, cap, cur, rfl, h2, h3, h4, h5, h6, h7⟩
  · omega
  · have hi : ∀ i, i < (n + 1) * 6 → cur[i]? = (xs ++ [a, b, c, d, e, f])[i]? := fun i hi => by
      rw [← h7, List.getElem?_take, if_pos hi]
      simp
    have htk : cur.toList.take (n * 6) = xs := by
      have : cur.toList.take (n * 6) = (cur.toList.take ((n + 1) * 6)).take (n * 6) := by rw [List.take_take, Nat.min_eq_left (by omega)]
      rw [this, h7, List.take_append_of_le_length (by omega), ← hx, List.take_length]
    have hc : ∀ j, j < 6 → cur[n * 6 + j]? = [a, b, c, d, e, f][j]? := fun j hj => by
      rw [hi _ (by omega), List.getElem?_append_right (by omega), hx, show n * 6 + j - n * 6 = j by omega]
    exact ⟨q, cap, cur, rfl, h2, h3, h4, ⟨hx, .inr ⟨q, cap, cur, rfl, h2, h3, by omega, h5, h6, htk⟩⟩, hc 0 (by omega), hc 1 (by omega), hc 2 (by omega), hc 3 (by omega), hc 4 (by omega), hc 5 (by omega)⟩

end Go.Proofs.YtlmbnefoobameaaGreatDoor

namespace Go.Proofs.YtlmbnefoobameaaGreatDoor
set_option maxRecDepth 100000
open Go.RowKit

theorem plP_form (k : Pl) : ∃ o m, plP k = .pointer o ∧ plN k = .int .i64 m := by
  match k with
  | none => exact ⟨_, _, rfl, rfl⟩
  | some (g, n) => exact ⟨_, _, rfl, rfl⟩

theorem news6 (w : World) (t : TypeId) (p : Pr) : CellsAt (w.alloc (.cells (prCells p).toArray t)) (some ⟨w.heap.size, 0, none⟩) (prCells p) := by
  refine .inr ⟨_, rfl, fun j u hj => ?_⟩
  rw [WideShapes.add_plain, World.cell?_alloc_at _ _ _ _ rfl, Nat.zero_add]
  simpa using hj
theorem ones6 (p : Pr) : ∀ u ∈ prCells p, u.oneCell' = true := by
  intro u hu
  simp [prCells] at hu
  rcases hu with rfl | rfl | rfl | rfl | rfl | rfl <;> rfl
theorem pSize_append : ∀ a b : List Pr, pSize (a ++ b) = pSize a + pSize b
  | [], b => by simp [pSize]
  | x :: a, b => by
    rw [List.cons_append, pSize, pSize, pSize_append a b]
    omega

end Go.Proofs.YtlmbnefoobameaaGreatDoor

namespace Go.Proofs.YtlmbnefoobameaaGreatDoor
set_option maxRecDepth 100000
open Go.RowKit

end Go.Proofs.YtlmbnefoobameaaGreatDoor
end

section
namespace Go.Proofs.YtlmbnefoobameaaGreatDoor
open Go.RowKit

/-- The same tree? -/
noncomputable def eqOtB (a b : Ot) : Bool := @decide (a = b) (Classical.propDecidable _)
theorem eqOtB_yes {a b : Ot} (h : a = b) : eqOtB a b = true := by unfold eqOtB; simp [h]
theorem eqOtB_no {a b : Ot} (h : a ≠ b) : eqOtB a b = false := by unfold eqOtB; simp [h]
theorem Ot.ext {a b : Ot} (h1 : a.kind = b.kind) (h2 : a.num = b.num) (h3 : a.name = b.name) (h5 : a.args = b.args) : a = b := by
  cases a; cases b
  simp only [Ot.kind, Ot.num, Ot.name, Ot.args] at h1 h2 h3 h5
  rw [h1, h2, h3, h5]

def EqualOOne (f : Nat) (t : Ot) : Prop := ∀ (t' : Ot) (v v' : Value) (w : World), OtAt w w.heap.size v t → OtAt w w.heap.size v' t' → Calls Tryz.prog f #[v, v'] w (BoolIs (eqOtB t t') w)

end Go.Proofs.YtlmbnefoobameaaGreatDoor
end

section
namespace Go.Proofs.YtlmbnefoobameaaGreatDoor.O
set_option maxRecDepth 100000
open Go.RowKit

theorem pl2_array : Tryz.prog.underlying 79 = some (.array 2 77) := by kernel_rfl
theorem pl_size2 : (Tryz.prog.info? 77).map (fun i => i.size) = some 2 := by kernel_rfl

theorem run_sizeOf_pl (w : World) : (sizeOf 77).run Tryz.prog w = .ok 2 w := by
  have h := pl_size2
  cases hi : Tryz.prog.info? 77 with
  | none => rw [hi] at h; cases h
  | some i =>
    rw [hi] at h
    simp at h
    simp [sizeOf, typeInfo, hi, Result.andThen, h]
theorem run_isAgg_pl (w : World) : (isAgg 77).run Tryz.prog w = .ok true w := by
  simp [isAgg, run_underlying pl_struct, Result.andThen]
theorem run_pl2_part0 (w : World) (a b c d : Value) : (part 77 #[a, b, c, d] 0).run Tryz.prog w = .ok (.agg #[a, b]) w := by
  kernel_rfl
theorem run_pl2_part1 (w : World) (a b c d : Value) : (part 77 #[a, b, c, d] 2).run Tryz.prog w = .ok (.agg #[c, d]) w := by
  kernel_rfl

theorem run_pl2_eq (w : World) (d : Nat) (k k' : Pl × Pl) (r1 r2 : Bool) (h1 : (Op.equalIn (d + 2) 77 (plVal k.1) (plVal k'.1)).run Tryz.prog w = .ok r1 w) (h2 : (Op.equalIn (d + 2) 77 (plVal k.2) (plVal k'.2)).run Tryz.prog w = .ok r2 w) :
    (Op.equalIn (d + 3) 79 (pl2Val k) (pl2Val k')).run Tryz.prog w = .ok (r1 && r2) w := by
  rw [plVal_eq, plVal_eq] at h1 h2
  unfold Op.equalIn pl2Val
  simp only [Sem.run_bind, run_underlying pl2_array, Result.andThen_ok, run_sizeOf_pl]
  simp only [Std.Legacy.Range.forIn_eq_forIn_range', Std.Legacy.Range.size, Nat.sub_zero, Nat.add_one_sub_one, Nat.div_one]
  rw [show List.range' 0 2 1 = [0, 1] from rfl]
  cases r1 <;> cases r2 <;> simp [run_pl2_part0, run_pl2_part1, h1, h2, Result.andThen]

theorem pl2_check (w : World) (em : Bool) (n : Nat) (k : Pl × Pl) : (Instr.checkKey em (n + 3) 79 (pl2Val k)).run Tryz.prog w = .ok () w := by
  have h1 := pl_check w em n k.1
  have h2 := pl_check w em n k.2
  rw [plVal_eq] at h1 h2
  unfold Instr.checkKey pl2Val
  simp only [Sem.run_bind, run_underlying pl2_array, Result.andThen_ok]
  simp only [Std.Legacy.Range.forIn_eq_forIn_range', Std.Legacy.Range.size, Nat.sub_zero, Nat.add_one_sub_one, Nat.div_one]
  rw [show List.range' 0 2 1 = [0, 1] from rfl]
  simp [run_pl2_part0, run_pl2_part1, h1, h2, Result.andThen]

/-- Pairs of places as keys. -/
theorem pl2Kit (w1 : World) (B mb : Nat) : KeyKit Tryz.prog 79 pl2Val (PlWd w1 B mb) (Pl2Ok w1 B mb) where
  find := fun w k es => findKey_wide pl2_array rfl w _ es
  check := fun w em k => pl2_check w em 9997 k
  same := fun w k => run_pl2_eq w 9997 k k true true (pl_eq_same w 9997 k.1) (pl_eq_same w 9997 k.2)
  other := fun w k k' hw hk hk' hne => by
    by_cases h1 : k.1 = k'.1
    · have h2 : k.2 ≠ k'.2 := fun e => hne (by rw [Prod.ext_iff]; exact ⟨h1, e⟩)
      have := run_pl2_eq w 9997 k k' true false (by rw [h1]; exact pl_eq_same w 9997 k'.1) (pl_eq_other w 9997 k.2 k'.2 hw hk.2 hk'.2 h2)
      exact this
    · by_cases h2 : k.2 = k'.2
      · exact run_pl2_eq w 9997 k k' false true (pl_eq_other w 9997 k.1 k'.1 hw hk.1 hk'.1 h1) (by rw [h2]; exact pl_eq_same w 9997 k'.2)
      · exact run_pl2_eq w 9997 k k' false false (pl_eq_other w 9997 k.1 k'.1 hw hk.1 hk'.1 h1) (pl_eq_other w 9997 k.2 k'.2 hw hk.2 hk'.2 h2)
  stays := fun w k => stays_agg w _ (by
    intro v hv
    simp at hv
    rcases hv with rfl | rfl | rfl | rfl
    · exact bits_plP _ _
    · exact bits_plN _ _
    · exact bits_plP _ _
    · exact bits_plN _ _)
  inj := fun k k' h => by
    simp [pl2Val] at h
    obtain ⟨h1, h2, h3, h4⟩ := h
    rw [Prod.ext_iff]
    exact ⟨plVal_inj _ _ (by rw [plVal_eq, plVal_eq, h1, h2]), plVal_inj _ _ (by rw [plVal_eq, plVal_eq, h3, h4])⟩

end Go.Proofs.YtlmbnefoobameaaGreatDoor.O

namespace Go.Proofs.YtlmbnefoobameaaGreatDoor.O
set_option maxRecDepth 100000
open Go.RowKit

/-- The same node? -/
def nodesB (a b : Ot) : Bool := decide (a.kind = b.kind) && decide (a.name = b.name) && decide (a.num = b.num)

set_option maxHeartbeats 1000000 in
theorem equalNodes_any (a b : Ot) (va vb : Value) (w : World) (ha : OtAt w w.heap.size va a) (hb : OtAt w w.heap.size vb b) : Calls Tryz.prog 25 #[va, vb] w (BoolIs (nodesB a b) w) := by
  obtain ⟨A, ac, rfl, _⟩ := ha.open
  obtain ⟨A', ac', rfl, _⟩ := hb.open
  obtain ⟨hb0, p0, q0, hs0⟩ := boxes2 w 26 26 #[.int .i64 a.kind, .string a.name, .int .i64 a.num, .slice A a.args.length ac] #[.int .i64 b.kind, .string b.name, .int .i64 b.num, .slice A' b.args.length ac']
  clear ha hb hs0
  by_cases hk : a.kind = b.kind
  · have i0 : (a.kind == b.kind) = true := by rw [beq_iff_eq]; exact hk
    by_cases he : a.name = b.name
    · have i2 : (a.name.toList == b.name.toList) = true := by rw [beq_iff_eq, he]
      by_cases hm : a.num = b.num
      · have i1 : (a.num == b.num) = true := by rw [beq_iff_eq]; exact hm
        have hr := Lib.hid (show nodesB a b = true by unfold nodesB; simp [hk, hm, he])
        clear hk hm he
        go_enter Tryz.func25, Tryz.ntmps25
        go_wp2
        go_ret
        exact ⟨by rw [hr.out]; rfl, hb0⟩
      · have i1 : (a.num == b.num) = false := by rw [beq_eq_false_iff_ne]; exact hm
        have hr := Lib.hid (show nodesB a b = false by unfold nodesB; simp [hm])
        clear hk hm he
        go_enter Tryz.func25, Tryz.ntmps25
        go_wp2
        go_ret
        exact ⟨by rw [hr.out]; rfl, hb0⟩
    · have i2 : (a.name.toList == b.name.toList) = false := by
        rw [beq_eq_false_iff_ne, ByteArray.toList_eq, ByteArray.toList_eq]
        exact fun e => he (WideShapes.bytes_inj e)
      have hr := Lib.hid (show nodesB a b = false by unfold nodesB; simp [he])
      clear hk he
      go_enter Tryz.func25, Tryz.ntmps25
      go_wp2
      go_ret
      exact ⟨by rw [hr.out]; rfl, hb0⟩
  · have i0 : (a.kind == b.kind) = false := by rw [beq_eq_false_iff_ne]; exact hk
    have hr := Lib.hid (show nodesB a b = false by unfold nodesB; simp [hk])
    clear hk
    go_enter Tryz.func25, Tryz.ntmps25
    go_wp2
    go_ret
    exact ⟨by rw [hr.out]; rfl, hb0⟩

end Go.Proofs.YtlmbnefoobameaaGreatDoor.O

namespace Go.Proofs.YtlmbnefoobameaaGreatDoor.O
set_option maxRecDepth 100000
open Go.RowKit

/-- Two trees, and how they lie in cells. -/
structure Pr where
  x : Ot
  y : Ot
  A : Option Addr
  a : Nat
  A' : Option Addr
  a' : Nat

def prCells (p : Pr) : List Value := [.int .i64 p.x.kind, .string p.x.name, .int .i64 p.x.num, .slice p.A p.x.args.length p.a, .int .i64 p.y.kind, .string p.y.name, .int .i64 p.y.num, .slice p.A' p.y.args.length p.a']
def pCells : List Pr → List Value | [] => [] | p :: r => pCells r ++ prCells p
theorem pCells_len : ∀ l : List Pr, (pCells l).length = l.length * 8
  | [] => rfl
  | f :: r => by
    rw [pCells, List.length_append, pCells_len r]
    simp [prCells]
    omega
def pSize : List Pr → Nat | [] => 0 | p :: r => sizeOt p.x + pSize r
theorem pSize_len : ∀ l : List Pr, l.length ≤ pSize l
  | [] => Nat.le_refl _
  | p :: r => by
    have := pSize_len r
    have := sizeOt_eq p.x
    rw [pSize, List.length_cons]
    omega

def PrOk (w1 : World) (B : Nat) (p : Pr) : Prop := OtIn w1 (fun b => b < B) (.agg #[.int .i64 p.x.kind, .string p.x.name, .int .i64 p.x.num, .slice p.A p.x.args.length p.a]) p.x ∧ OtIn w1 (fun b => b < B) (.agg #[.int .i64 p.y.kind, .string p.y.name, .int .i64 p.y.num, .slice p.A' p.y.args.length p.a']) p.y

/-- At the place P lie the trees l. -/
def PlAt (w1 : World) (B : Nat) (P : Pl) (l : List Ot) : Prop := (P = none ∧ l = []) ∨ ∃ g, P = some (g, l.length) ∧ l ≠ [] ∧ OtsIn w1 (fun b => b < B) (some ⟨g, 0, none⟩) l
theorem PlAt.uniq {w1 : World} {B : Nat} {P : Pl} {l l' : List Ot} (h : PlAt w1 B P l) (h' : PlAt w1 B P l') : l = l' := by
  rcases h with ⟨rfl, rfl⟩ | ⟨g, rfl, h1, h2⟩
  · rcases h' with ⟨_, rfl⟩ | ⟨g', h3, _⟩
    · rfl
    · cases h3
  · rcases h' with ⟨h3, _⟩ | ⟨g', h3, h4, h5⟩
    · cases h3
    · simp at h3
      obtain ⟨rfl, h6⟩ := h3
      exact h2.uniq h5 h6

theorem place_of {w1 : World} {B mb : Nat} (hmb : ∀ (t : TypeId) (cs : Array Value), ¬ Whole1 w1 mb t cs) {A : Option Addr} {ts : List Ot} (h : OtsIn w1 (fun b => b < B) A ts) (c : Nat) : ∃ P, PlAt w1 B P ts ∧ PlOk w1 B mb P ∧ ∀ W, Calls Tryz.prog 51 #[.slice A ts.length c] W (PlaceRet W P) := by
  by_cases h0 : ts = []
  · subst h0
    exact ⟨none, .inl ⟨rfl, rfl⟩, fun g n e => (by cases e), fun W => placeOf_nil A c W⟩
  · obtain ⟨g, cs, rfl, _, _⟩ := h.addr h0
    exact ⟨some (g, ts.length), .inr ⟨g, rfl, h0, h⟩, okKey hmb h h0 _, fun W => placeOf_some g _ c W (List.length_pos_iff.2 h0)⟩

theorem _root_.Go.Proofs.YtlmbnefoobameaaGreatDoor.OtIn.args_of {w1 : World} {B : Nat} {p0 p1 p2 : Value} {A : Option Addr} {n c : Nat} {t : Ot} (h : OtIn w1 (fun b => b < B) (.agg #[p0, p1, p2, .slice A n c]) t) : n = t.args.length ∧ OtsIn w1 (fun b => b < B) A t.args := by
  obtain ⟨A', ac, hv, _, ha⟩ := h.open
  simp at hv
  obtain ⟨_, _, _, rfl, rfl, _⟩ := hv
  exact ⟨rfl, ha⟩

/-- Tree i of a slice: its cells. -/
theorem _root_.Go.Proofs.YtlmbnefoobameaaGreatDoor.OtsIn.elem3 {w1 : World} {B : Nat} {A : Option Addr} {ts : List Ot} (h : OtsIn w1 (fun b => b < B) A ts) (i : Nat) (hi : i < ts.length) : ∃ g A' ac, A = some ⟨g, 0, none⟩ ∧ g < B ∧ (∃ t cs, Whole1 w1 g t cs) ∧ w1.cell? ⟨g, i * 4, none⟩ = some (.int .i64 ts[i].kind) ∧ w1.cell? ⟨g, i * 4 + 1, none⟩ = some (.string ts[i].name) ∧ w1.cell? ⟨g, i * 4 + 2, none⟩ = some (.int .i64 ts[i].num) ∧ w1.cell? ⟨g, i * 4 + 3, none⟩ = some (.slice A' ts[i].args.length ac) ∧ OtIn w1 (fun b => b < B) (.agg #[.int .i64 ts[i].kind, .string ts[i].name, .int .i64 ts[i].num, .slice A' ts[i].args.length ac]) ts[i] := by
  obtain ⟨hm, ga, vs, Ss, h1, h2, h3, h4⟩ := h
  rcases h1 with rfl | ⟨rfl, h5, h6⟩
  · exact absurd hi (by simp)
  · obtain ⟨A', ac, hv, _⟩ := (h4 i hi).open
    have c0 := h6.cell i 0 hi (by omega)
    have c1 := h6.cell i 1 hi (by omega)
    have c2 := h6.cell i 2 hi (by omega)
    have c3 := h6.cell i 3 hi (by omega)
    have ht := (h4 i hi).wide fun b hb => (h2 i hi b hb).1
    have h7 : ∃ t cs, Whole1 w1 ga t cs := by
      obtain ⟨cs, h7, _⟩ := h6
      exact ⟨_, cs, h7⟩
    rw [hv] at c0 c1 c2 c3 ht
    exact ⟨ga, A', ac, rfl, h5, h7, c0, c1, c2, c3, ht⟩

/-- The state of the comparison. -/
structure Inv2 (w1 : World) (B mb : Nat) (a0 b0 : Ot) (wc w : World) (v : Value) (stk : List Pr) (F : Pl × Pl → Option Value) : Prop where
  own : w.ownsRow B 73 8 v stk.length (pCells stk)
  keep : PlWd w1 B mb w
  call : Below wc.heap.size wc w
  known : Known pl2Val (Pl2Ok w1 B mb) w mb F
  ok : ∀ p ∈ stk, PrOk w1 B p
  fwd : (∀ p ∈ stk, p.x = p.y) → a0 = b0
  bwd : a0 = b0 → ∀ p ∈ stk, p.x = p.y
  vals : ∀ k u, F k = some u → u = .bool true
  memo : ∀ P Q l m u, F (P, Q) = some u → PlAt w1 B P l → PlAt w1 B Q m → (∀ p ∈ stk, sizeOt p.x ≤ sizeOts l → p.x = p.y) → l = m
  cnt : pSize stk ≤ 2000000
  size : B ≤ w.heap.size

section
variable {w1 wc w : World} {B mb : Nat} {a0 b0 : Ot} {v : Value} {p : Pr} {r stk : List Pr} {F : Pl × Pl → Option Value}

theorem Inv2.below {w' : World} (h : Inv2 w1 B mb a0 b0 wc w v stk F) (hB0 : wc.heap.size ≤ w.heap.size) (hb : Below w.heap.size w w') : Inv2 w1 B mb a0 b0 wc w' v stk F :=
  { h with
    own := owns_keep4 h.own fun g hg => hb.block g (h.own.lt g hg).2
    keep := fun g hg hne => (hb.block g (Nat.lt_of_lt_of_le hg h.size)).trans (h.keep g hg hne)
    call := h.call.trans (hb.mono hB0)
    known := h.known.keep (hb.block mb h.known.lt)
    size := Nat.le_trans h.size hb.size }

theorem same_of (h1 : nodesB p.x p.y = true) (h2 : p.x.args = p.y.args) : p.x = p.y := by
  unfold nodesB at h1
  simp only [Bool.and_eq_true, decide_eq_true_eq] at h1
  exact Ot.ext h1.1.1 h1.2 h1.1.2 h2

/-- The places are known: the pair is passed by. -/
theorem Inv2.skip {w' : World} {v' : Value} (h : Inv2 w1 B mb a0 b0 wc w v (p :: r) F) (hn : nodesB p.x p.y = true) {P Q : Pl} {u : Value} (hP : PlAt w1 B P p.x.args) (hQ : PlAt w1 B Q p.y.args) (hF : F (P, Q) = some u)
    (hown : w'.ownsRow B 73 8 v' r.length (pCells r)) (hkeep : PlWd w1 B mb w') (hcall : Below wc.heap.size wc w') (hkn : Known pl2Val (Pl2Ok w1 B mb) w' mb F) (hB : B ≤ w'.heap.size) : Inv2 w1 B mb a0 b0 wc w' v' r F := by
  have hsz := sizeOt_eq p.x
  have hp : (∀ q ∈ r, sizeOt q.x ≤ sizeOts p.x.args → q.x = q.y) → p.x = p.y := fun hr => same_of hn (h.memo P Q _ _ u hF hP hQ fun q hq hs => by
    rcases List.mem_cons.1 hq with rfl | hq
    · omega
    · exact hr q hq hs)
  refine { own := hown, keep := hkeep, call := hcall, known := hkn, ok := fun q hq => h.ok q (List.mem_cons_of_mem _ hq), fwd := fun hr => h.fwd fun q hq => ?_, bwd := fun e q hq => h.bwd e q (List.mem_cons_of_mem _ hq), vals := h.vals, memo := fun P' Q' l m u' hF' hl hm hr => h.memo P' Q' l m u' hF' hl hm fun q hq hs => ?_, cnt := by have := h.cnt; rw [pSize] at this; omega, size := hB }
  · rcases List.mem_cons.1 hq with rfl | hq
    · exact hp fun q' hq' _ => hr q' hq'
    · exact hr q hq
  · rcases List.mem_cons.1 hq with rfl | hq
    · exact hp fun q' hq' hs' => hr q' hq' (by omega)
    · exact hr q hq hs

/-- The pairs of the parts, as far as they were laid onto the stack. -/
structure Kids (w1 : World) (B : Nat) (l m : List Ot) (k : Nat) (ks : List Pr) : Prop where
  all : ∀ i, (h1 : i < l.length) → (h2 : i < m.length) → i < k → ∃ q ∈ ks, q.x = l[i] ∧ q.y = m[i]
  only : ∀ q ∈ ks, ∃ i, ∃ (h1 : i < l.length) (h2 : i < m.length), q.x = l[i] ∧ q.y = m[i]
  ok : ∀ q ∈ ks, PrOk w1 B q
  size : pSize ks = sizeOts (l.take k)
  len : ks.length = k
theorem Kids.nil (w1 : World) (B : Nat) (l m : List Ot) : Kids w1 B l m 0 [] := ⟨fun _ _ _ h => absurd h (Nat.not_lt_zero _), fun q h => absurd h (by simp), fun q h => absurd h (by simp), by simp [pSize, sizeOts], rfl⟩
theorem Kids.snoc {l m : List Ot} {k : Nat} {ks : List Pr} (h : Kids w1 B l m k ks) (h1 : k < l.length) (h2 : k < m.length) (q : Pr) (hx : q.x = l[k]) (hy : q.y = m[k]) (hq : PrOk w1 B q) : Kids w1 B l m (k + 1) (q :: ks) := by
  refine ⟨fun i i1 i2 hi => ?_, fun q' hq' => ?_, fun q' hq' => ?_, ?_, by rw [List.length_cons, h.len]⟩
  · by_cases e : i = k
    · subst e
      exact ⟨q, List.mem_cons_self, hx, hy⟩
    · obtain ⟨q', a, b⟩ := h.all i i1 i2 (by omega)
      exact ⟨q', List.mem_cons_of_mem _ a, b⟩
  · rcases List.mem_cons.1 hq' with rfl | hq'
    · exact ⟨k, h1, h2, hx, hy⟩
    · exact h.only q' hq'
  · rcases List.mem_cons.1 hq' with rfl | hq'
    · exact hq
    · exact h.ok q' hq'
  · rw [pSize, h.size, sizeOts_take l k h1, hx]
    omega

/-- The pairs of all parts lie on the stack. -/
theorem Inv2.push {w' : World} {v' : Value} (h : Inv2 w1 B mb a0 b0 wc w v (p :: r) F) (hn : nodesB p.x p.y = true) (hl : p.x.args.length = p.y.args.length) {P Q : Pl} (hP : PlAt w1 B P p.x.args) (hQ : PlAt w1 B Q p.y.args) {ks : List Pr} (hk : Kids w1 B p.x.args p.y.args p.x.args.length ks)
    (hown : w'.ownsRow B 73 8 v' (ks ++ r).length (pCells (ks ++ r))) (hkeep : PlWd w1 B mb w') (hcall : Below wc.heap.size wc w') (hkn : Known pl2Val (Pl2Ok w1 B mb) w' mb (put F (P, Q) (.bool true))) (hB : B ≤ w'.heap.size) : Inv2 w1 B mb a0 b0 wc w' v' (ks ++ r) (put F (P, Q) (.bool true)) := by
  have hsz := sizeOt_eq p.x
  have hkids : (∀ q ∈ ks, q.x = q.y) → p.x.args = p.y.args := fun hq => List.ext_getElem hl fun i i1 i2 => by
    obtain ⟨q, h1, h2, h3⟩ := hk.all i i1 i2 i1
    rw [← h2, ← h3]
    exact hq q h1
  have hsmall : ∀ q ∈ ks, sizeOt q.x ≤ sizeOts p.x.args := fun q hq => by
    obtain ⟨i, i1, i2, h2, _⟩ := hk.only q hq
    rw [h2]
    have h3 := sizeOts_take p.x.args i i1
    have h4 := sizeOts_le p.x.args (i + 1)
    omega
  have happ : ∀ a b : List Pr, pSize (a ++ b) = pSize a + pSize b := fun a b => by
    induction a with
    | nil => simp [pSize]
    | cons x a ih =>
      rw [List.cons_append, pSize, pSize, ih]
      omega
  refine { own := hown, keep := hkeep, call := hcall, known := hkn, ok := fun q hq => ?_, fwd := fun hr => h.fwd fun q hq => ?_, bwd := fun e q hq => ?_, vals := fun k u hu => ?_, memo := fun P' Q' l m u' hF' hl' hm' hr => ?_, cnt := ?_, size := hB }
  · rcases List.mem_append.1 hq with hq | hq
    · exact hk.ok q hq
    · exact h.ok q (List.mem_cons_of_mem _ hq)
  · rcases List.mem_cons.1 hq with rfl | hq
    · exact same_of hn (hkids fun q' hq' => hr q' (List.mem_append.2 (.inl hq')))
    · exact hr q (List.mem_append.2 (.inr hq))
  · rcases List.mem_append.1 hq with hq | hq
    · obtain ⟨i, i1, i2, h2, h3⟩ := hk.only q hq
      have he := h.bwd e p List.mem_cons_self
      rw [h2, h3]
      have : p.x.args[i]? = p.y.args[i]? := by rw [he]
      rw [List.getElem?_eq_getElem i1, List.getElem?_eq_getElem i2] at this
      exact Option.some.inj this
    · exact h.bwd e q (List.mem_cons_of_mem _ hq)
  · by_cases e : k = (P, Q)
    · subst e
      rw [put_same] at hu
      exact (Option.some.inj hu).symm
    · rw [put_other _ _ _ _ e] at hu
      exact h.vals k u hu
  · by_cases e : (P', Q') = (P, Q)
    · cases e
      have e1 := hl'.uniq hP
      have e2 := hm'.uniq hQ
      subst e1 e2
      exact hkids fun q hq => hr q (List.mem_append.2 (.inl hq)) (hsmall q hq)
    · rw [put_other _ _ _ _ e] at hF'
      refine h.memo P' Q' l m u' hF' hl' hm' fun q hq hs => ?_
      rcases List.mem_cons.1 hq with rfl | hq
      · exact same_of hn (hkids fun q' hq' => hr q' (List.mem_append.2 (.inl hq')) (by have := hsmall q' hq'; omega))
      · exact hr q (List.mem_append.2 (.inr hq)) hs
  · have h1 := h.cnt
    rw [pSize] at h1
    rw [happ, hk.size, List.take_length]
    omega

end

/-- The row's last cells. -/
theorem row_topN {w : World} {B n : Nat} {T : TypeId} {v : Value} {xs : List Value} {a0 a1 a2 a3 a4 a5 a6 a7 : Value} (h : w.ownsRow B T 8 v (n + 1) (xs ++ [a0, a1, a2, a3, a4, a5, a6, a7])) (hx : xs.length = n * 8) :
    ∃ q cap cur, v = .slice (some ⟨q, 0, none⟩) (n + 1) cap ∧ B ≤ q ∧ Whole1 w q T cur ∧ n + 1 ≤ cap ∧ w.ownsRow B T 8 (.slice (some ⟨q, 0, none⟩) n cap) n xs ∧ cur[n * 8]? = some a0 ∧ cur[n * 8 + 1]? = some a1 ∧ cur[n * 8 + 2]? = some a2 ∧ cur[n * 8 + 3]? = some a3 ∧ cur[n * 8 + 4]? = some a4 ∧ cur[n * 8 + 5]? = some a5 ∧ cur[n * 8 + 6]? = some a6 ∧ cur[n * 8 + 7]? = some a7 := by
  rcases h.2 with ⟨_, h0⟩ | ⟨q, cap, cur, rfl, h2, h3, h4, h5, h6, h7⟩
  · omega
  · have hi : ∀ i, i < (n + 1) * 8 → cur[i]? = (xs ++ [a0, a1, a2, a3, a4, a5, a6, a7])[i]? := fun i hi => by
      rw [← h7, List.getElem?_take, if_pos hi]
      simp
    have htk : cur.toList.take (n * 8) = xs := by
      have : cur.toList.take (n * 8) = (cur.toList.take ((n + 1) * 8)).take (n * 8) := by rw [List.take_take, Nat.min_eq_left (by omega)]
      rw [this, h7, List.take_append_of_le_length (by omega), ← hx, List.take_length]
    have hc : ∀ j, j < 8 → cur[n * 8 + j]? = [a0, a1, a2, a3, a4, a5, a6, a7][j]? := fun j hj => by
      rw [hi _ (by omega), List.getElem?_append_right (by omega), hx, show n * 8 + j - n * 8 = j by omega]
    exact ⟨q, cap, cur, rfl, h2, h3, h4, ⟨hx, .inr ⟨q, cap, cur, rfl, h2, h3, by omega, h5, h6, htk⟩⟩, hc 0 (by omega), hc 1 (by omega), hc 2 (by omega), hc 3 (by omega), hc 4 (by omega), hc 5 (by omega), hc 6 (by omega), hc 7 (by omega)⟩

end Go.Proofs.YtlmbnefoobameaaGreatDoor.O

namespace Go.Proofs.YtlmbnefoobameaaGreatDoor.O
set_option maxRecDepth 100000
open Go.RowKit

/-- At the start. -/
theorem Inv2.start {wc w3 w1 : World} {a b : Ot} {p : Pr} (hx : p.x = a) (hy : p.y = b) (hp : PrOk wc wc.heap.size p) (hsz : sizeOt a ≤ 2000000) (hb3 : Below wc.heap.size wc w3) (hs3 : w3.heap.size = wc.heap.size + 2)
    (hw1 : (w3.alloc (.map #[] 0)).alloc (.cells (prCells p).toArray 73) = w1) :
    Inv2 w1 (wc.heap.size + 3) (wc.heap.size + 2) a b wc w1 (.slice (some ⟨wc.heap.size + 2 + 1, 0, none⟩) 1 1) [p] (fun _ => none) := by
  have hs4 : (w3.alloc (.map #[] 0)).heap.size = wc.heap.size + 3 := by simp [hs3]
  have hb1 : Below w3.heap.size w3 w1 := by
    rw [← hw1]
    exact ((Below.refl _ _).alloc (Nat.le_refl _) _).alloc (by simp) _
  have hs1 : w1.heap.size = wc.heap.size + 4 := by rw [← hw1]; simp [hs3]
  have hcall : Below wc.heap.size wc w1 := hb3.trans (hb1.mono (by omega))
  have hmap : w1.heap[wc.heap.size + 2]? = some (.map #[] 0) := by
    rw [← hw1]
    refine (Below.heap_alloc _ _ _ (by omega)).trans ?_
    have := heap_alloc_new w3 (.map #[] 0)
    rw [hs3] at this
    exact this
  have htop : Whole1 w1 (wc.heap.size + 3) 73 (prCells p).toArray := by
    rw [← hw1]
    have := Whole1.new (w3.alloc (.map #[] 0)) 73 (prCells p).toArray
    rw [hs4] at this
    exact this
  have hok : PrOk w1 (wc.heap.size + 3) p := ⟨(hp.1.keep fun b hb _ => hcall.block b hb).wide fun b hb => by omega, (hp.2.keep fun b hb _ => hcall.block b hb).wide fun b hb => by omega⟩
  refine { own := ⟨rfl, .inr ⟨wc.heap.size + 3, 1, _, rfl, Nat.le_refl _, htop, Nat.le_refl _, by decide, rfl, rfl⟩⟩, keep := fun _ _ _ => rfl, call := hcall, known := ⟨#[], 0, hmap, fun e he => absurd he (by simp), fun k v h => (by cases h), List.Pairwise.nil⟩, ok := ?_, fwd := ?_, bwd := ?_, vals := fun _ _ h => (by cases h), memo := fun _ _ _ _ _ h => (by cases h), cnt := by simp [pSize, hx]; exact hsz, size := by omega }
  · intro q hq
    have : q = p := by simpa using hq
    rw [this]
    exact hok
  · intro h
    rw [← hx, ← hy]
    exact h p (by simp)
  · intro e q hq
    have : q = p := by simpa using hq
    rw [this, hx, hy]
    exact e

theorem _root_.Go.Proofs.YtlmbnefoobameaaGreatDoor.OtIn.cellsOnly {w : World} {S : Nat → Prop} {v : Value} {t : Ot} (h : OtIn w S v t) : OtIn w (fun b => S b ∧ ∃ t cs, Whole1 w b t cs) v t := by
  induction h with
  | mk ga vs Ss hnm hm hes hsub hdis _ ih =>
    refine .mk ga vs (fun i b => Ss i b ∧ ∃ t cs, Whole1 w b t cs) hnm hm (hes.imp id fun ⟨h1, h2, h3⟩ => ⟨h1, ⟨h2, ?_⟩, h3⟩) (fun i hi b hb => ⟨⟨(hsub i hi b hb.1).1, hb.2⟩, (hsub i hi b hb.1).2⟩) (fun i j hi hj hne b hb hb' => hdis i j hi hj hne b hb.1 hb'.1) ih
    obtain ⟨cs, h4, _⟩ := h3
    exact ⟨_, cs, h4⟩
theorem _root_.Go.Proofs.YtlmbnefoobameaaGreatDoor.OtIn.move {w1 w' : World} {B mb : Nat} {v : Value} {t : Ot} (h : OtIn w1 (fun b => b < B) v t) (hmb : ∀ (t : TypeId) (cs : Array Value), ¬ Whole1 w1 mb t cs) (hk : PlWd w1 B mb w') : OtAt w' w'.heap.size v t :=
  (h.cellsOnly.keep fun b hb _ => hk b hb.1 fun e => by
    obtain ⟨_, t, cs, h1⟩ := hb
    exact hmb t cs (e ▸ h1)).here

theorem infoPair : (Tryz.prog.info? 73).map (fun i => (i.zero, i.size, i.bytes)) = some (some (.agg #[.int .i64 0, .string ⟨#[]⟩, .int .i64 0, .slice none 0 0, .int .i64 0, .string ⟨#[]⟩, .int .i64 0, .slice none 0 0]), 8, 112) := by kernel_rfl
theorem newsN (w : World) (t : TypeId) (p : Pr) : CellsAt (w.alloc (.cells (prCells p).toArray t)) (some ⟨w.heap.size, 0, none⟩) (prCells p) := by
  refine .inr ⟨_, rfl, fun j u hj => ?_⟩
  rw [WideShapes.add_plain, World.cell?_alloc_at _ _ _ _ rfl, Nat.zero_add]
  simpa using hj
theorem onesN (p : Pr) : ∀ u ∈ prCells p, u.oneCell' = true := by
  intro u hu
  simp [prCells] at hu
  rcases hu with rfl | rfl | rfl | rfl | rfl | rfl | rfl | rfl <;> rfl
theorem pSize_append : ∀ a b : List Pr, pSize (a ++ b) = pSize a + pSize b
  | [], b => by simp [pSize]
  | x :: a, b => by
    rw [List.cons_append, pSize, pSize, pSize_append a b]
    omega

/-- The state within a round. -/
structure Mid (w1 : World) (B mb : Nat) (wc w : World) (v : Value) (n : Nat) (xs : List Value) (F : Pl × Pl → Option Value) : Prop where
  own : w.ownsRow B 73 8 v n xs
  keep : PlWd w1 B mb w
  call : Below wc.heap.size wc w
  known : Known pl2Val (Pl2Ok w1 B mb) w mb F
  size : B ≤ w.heap.size
theorem Mid.below {w1 wc w w' : World} {B mb n : Nat} {v : Value} {xs : List Value} {F : Pl × Pl → Option Value} (h : Mid w1 B mb wc w v n xs F) (hb : Below w.heap.size w w') : Mid w1 B mb wc w' v n xs F :=
  { own := owns_keep4 h.own fun g hg => hb.block g (h.own.lt g hg).2
    keep := fun g hg hne => (hb.block g (Nat.lt_of_lt_of_le hg h.size)).trans (h.keep g hg hne)
    call := h.call.trans (hb.mono h.call.size)
    known := h.known.keep (hb.block mb h.known.lt)
    size := Nat.le_trans h.size hb.size }

set_option maxHeartbeats 4000000 in
theorem equalTrees_any (a b : Ot) (va vb : Value) (w : World) (ha : OwnO w va a) (hb : OwnO w vb b) (hsz : sizeOt a ≤ 2000000) :
    Calls Tryz.prog 23 #[va, vb, .func (.func 24) #[] #[], .func (.func 25) #[] #[]] w (BoolIs (eqOtB a b) w) := by
  obtain ⟨A, ac, rfl, _⟩ := ha.open
  obtain ⟨A', ac', rfl, _⟩ := hb.open
  obtain ⟨S, hva, hSa⟩ := ha
  obtain ⟨S', hvb, hSb⟩ := hb
  have hmm := @run_makeMap Tryz.prog
  obtain ⟨hb2, p2, r2, hs2⟩ := boxes2 w 26 26 #[.int .i64 a.kind, .string a.name, .int .i64 a.num, .slice A a.args.length ac] #[.int .i64 b.kind, .string b.name, .int .i64 b.num, .slice A' b.args.length ac']
  have HP0 : Hid (PrOk w w.heap.size ⟨a, b, A, ac, A', ac'⟩) := Lib.hid ⟨hva.wide fun b h => hSa b h, hvb.wide fun b h => hSb b h⟩
  clear hva hvb hSa hSb
  go_enter Tryz.func23, Tryz.ntmps23
  go_upto_region 1 with fail
  generalize (w.alloc (.cells #[.int .i64 a.kind, .string a.name, .int .i64 a.num, .slice A a.args.length ac] 26)).alloc (.cells #[.int .i64 b.kind, .string b.name, .int .i64 b.num, .slice A' b.args.length ac'] 26) = w2 at *
  have q0 : w2.cell? ⟨w.heap.size, 0, none⟩ = some (.int .i64 a.kind) := p2.cell 0
  have q1 : w2.cell? ⟨w.heap.size, 1, none⟩ = some (.string a.name) := p2.cell 1
  have q2 : w2.cell? ⟨w.heap.size, 2, none⟩ = some (.int .i64 a.num) := p2.cell 2
  have q3 : w2.cell? ⟨w.heap.size, 3, none⟩ = some (.slice A a.args.length ac) := p2.cell 3
  have q4 : w2.cell? ⟨w.heap.size + 1, 0, none⟩ = some (.int .i64 b.kind) := r2.cell 0
  have q5 : w2.cell? ⟨w.heap.size + 1, 1, none⟩ = some (.string b.name) := r2.cell 1
  have q6 : w2.cell? ⟨w.heap.size + 1, 2, none⟩ = some (.int .i64 b.num) := r2.cell 2
  have q7 : w2.cell? ⟨w.heap.size + 1, 3, none⟩ = some (.slice A' b.args.length ac') := r2.cell 3
  clear p2 r2
  go_wp2
  generalize hw1 : (w2.alloc (.map #[] 0)).alloc _ = w1
  have hstart := Inv2.start rfl rfl HP0.out hsz hb2 hs2 hw1
  have hs1 : w1.heap.size = w.heap.size + 4 := by rw [← hw1]; simp [hs2]
  have hmb : ∀ (t : TypeId) (cs : Array Value), ¬ Whole1 w1 (w.heap.size + 2) t cs := by
    obtain ⟨es, clock, h1, _⟩ := hstart.known
    intro t cs h
    unfold Whole1 at h
    rw [h1] at h
    cases h
  have HMB := Lib.hid hmb
  clear HP0 hw1 hb2 hs2 q0 q1 q2 q3 q4 q5 q6 q7 hmb hmm
  go_loopg [10] (pSize [⟨a, b, A, ac, A', ac'⟩]) (fun gn v wr => ∃ stk F, Inv2 w1 (w.heap.size + 3) (w.heap.size + 2) a b w wr v stk F ∧ pSize stk = gn)
  case atStart => exact ⟨_, _, hstart, rfl⟩
  case round =>
    clear hstart
    obtain ⟨stk, F, hI, hmu⟩ := hrel
    cases stk with
    | nil =>
      have hr := Lib.hid (eqOtB_yes (hI.fwd (by simp)))
      have hc := Lib.hid hI.call
      have hv : ∃ B c, u10 = .slice B 0 c := by
        rcases hI.own.2 with ⟨rfl, _⟩ | ⟨g, cap, cur, rfl, _⟩
        · exact ⟨_, _, rfl⟩
        · exact ⟨_, _, rfl⟩
      obtain ⟨B, c, rfl⟩ := hv
      clear hI hmu
      go_wp2
      go_ret
      exact ⟨by rw [hr.out]; rfl, hc.out⟩
    | cons p r =>
      have HI := Lib.hid hI
      have HMU := Lib.hid hmu
      have hok := hI.ok p (by simp)
      have hcnt := hI.cnt
      rw [pSize] at hcnt
      have hrl := pSize_len r
      have hwz := hI.size
      have hcz := hI.call.size
      obtain ⟨q, cap, cur, rfl, hq, hW, hcap, hown, d0, d1, d2, d3, d4, d5, d6, d7⟩ := row_topN hI.own (pCells_len r)
      have HOWN := Lib.hid hown
      have HOK := Lib.hid hok
      have hql := hW.lt
      obtain ⟨n, hn⟩ : ∃ n, n = r.length := ⟨_, rfl⟩
      have HN := Lib.hid hn
      rw [← hn] at d0 d1 d2 d3 d4 d5 d6 d7 hcap hrl ⊢
      have e0 : wr.cell? ⟨q, n * 8, none⟩ = some (.int .i64 p.x.kind) := (hW.cell _).trans d0
      have e1 : wr.cell? ⟨q, n * 8 + 1, none⟩ = some (.string p.x.name) := (hW.cell _).trans d1
      have e2 : wr.cell? ⟨q, n * 8 + 2, none⟩ = some (.int .i64 p.x.num) := (hW.cell _).trans d2
      have e3 : wr.cell? ⟨q, n * 8 + 3, none⟩ = some (.slice p.A p.x.args.length p.a) := (hW.cell _).trans d3
      have e4 : wr.cell? ⟨q, n * 8 + 4, none⟩ = some (.int .i64 p.y.kind) := (hW.cell _).trans d4
      have e5 : wr.cell? ⟨q, n * 8 + 5, none⟩ = some (.string p.y.name) := (hW.cell _).trans d5
      have e6 : wr.cell? ⟨q, n * 8 + 6, none⟩ = some (.int .i64 p.y.num) := (hW.cell _).trans d6
      have e7 : wr.cell? ⟨q, n * 8 + 7, none⟩ = some (.slice p.A' p.y.args.length p.a') := (hW.cell _).trans d7
      have hlt0 : (n : Int) < (n : Int) + 1 := by omega
      have hlt1 : (n : Int) + 1 > 0 := by omega
      have hnc : (n : Int) ≤ (cap : Int) := by omega
      clear hI hmu hown hok hW d0 d1 d2 d3 d4 d5 d6 d7 hn
      have hM : Hid (Mid w1 (w.heap.size + 3) (w.heap.size + 2) w wr (.slice (some ⟨q, 0, none⟩) n cap) n (pCells r) F) := Lib.hid ⟨by have := HOWN.out; rw [← HN.out] at this; exact this, HI.out.keep, HI.out.call, HI.out.known, HI.out.size⟩
      go_upto_region 6 with fail
      have hbx := (Below.refl wr.heap.size wr).alloc (Nat.le_refl _) (.cells #[.int .i64 p.x.kind, .string p.x.name, .int .i64 p.x.num, .slice p.A p.x.args.length p.a, .int .i64 p.y.kind, .string p.y.name, .int .i64 p.y.num, .slice p.A' p.y.args.length p.a'] 73)
      have MA := Lib.hid (hM.out.below hbx)
      have hPB := Whole1.new wr 73 #[.int .i64 p.x.kind, .string p.x.name, .int .i64 p.x.num, .slice p.A p.x.args.length p.a, .int .i64 p.y.kind, .string p.y.name, .int .i64 p.y.num, .slice p.A' p.y.args.length p.a']
      clear e0 e1 e2 e3 e4 e5 e6 e7 hbx hM
      generalize wr.alloc (.cells #[.int .i64 p.x.kind, .string p.x.name, .int .i64 p.x.num, .slice p.A p.x.args.length p.a, .int .i64 p.y.kind, .string p.y.name, .int .i64 p.y.num, .slice p.A' p.y.args.length p.a'] 73) = wa at *
      have hpbl := hPB.lt
      have k0 : wa.cell? ⟨wr.heap.size, 0, none⟩ = some (.int .i64 p.x.kind) := hPB.cell 0
      have k1 : wa.cell? ⟨wr.heap.size, 1, none⟩ = some (.string p.x.name) := hPB.cell 1
      have k2 : wa.cell? ⟨wr.heap.size, 2, none⟩ = some (.int .i64 p.x.num) := hPB.cell 2
      have k3 : wa.cell? ⟨wr.heap.size, 3, none⟩ = some (.slice p.A p.x.args.length p.a) := hPB.cell 3
      have k4 : wa.cell? ⟨wr.heap.size, 4, none⟩ = some (.int .i64 p.y.kind) := hPB.cell 4
      have k5 : wa.cell? ⟨wr.heap.size, 5, none⟩ = some (.string p.y.name) := hPB.cell 5
      have k6 : wa.cell? ⟨wr.heap.size, 6, none⟩ = some (.int .i64 p.y.num) := hPB.cell 6
      have k7 : wa.cell? ⟨wr.heap.size, 7, none⟩ = some (.slice p.A' p.y.args.length p.a') := hPB.cell 7
      have ed := (Below.refl wa.heap.size wa).drew
      have keepf : ∀ x, Below wa.heap.size wa x → x.cell? ⟨wr.heap.size, 0, none⟩ = some (.int .i64 p.x.kind) ∧ x.cell? ⟨wr.heap.size, 1, none⟩ = some (.string p.x.name) ∧ x.cell? ⟨wr.heap.size, 2, none⟩ = some (.int .i64 p.x.num) ∧ x.cell? ⟨wr.heap.size, 3, none⟩ = some (.slice p.A p.x.args.length p.a) ∧ x.cell? ⟨wr.heap.size, 4, none⟩ = some (.int .i64 p.y.kind) ∧ x.cell? ⟨wr.heap.size, 5, none⟩ = some (.string p.y.name) ∧ x.cell? ⟨wr.heap.size, 6, none⟩ = some (.int .i64 p.y.num) ∧ x.cell? ⟨wr.heap.size, 7, none⟩ = some (.slice p.A' p.y.args.length p.a') := fun x hx =>
        ⟨(hx.cell (p := ⟨wr.heap.size, 0, none⟩) hpbl).trans k0, (hx.cell (p := ⟨wr.heap.size, 1, none⟩) hpbl).trans k1, (hx.cell (p := ⟨wr.heap.size, 2, none⟩) hpbl).trans k2, (hx.cell (p := ⟨wr.heap.size, 3, none⟩) hpbl).trans k3, (hx.cell (p := ⟨wr.heap.size, 4, none⟩) hpbl).trans k4, (hx.cell (p := ⟨wr.heap.size, 5, none⟩) hpbl).trans k5, (hx.cell (p := ⟨wr.heap.size, 6, none⟩) hpbl).trans k6, (hx.cell (p := ⟨wr.heap.size, 7, none⟩) hpbl).trans k7⟩
      have KF := Lib.hid keepf
      obtain ⟨j0, j1, j2, j3, j4, j5, j6, j7⟩ := keepf wa.drew ed
      clear keepf
      go_region_held3 (fun x => x.cell? ⟨wr.heap.size, 0, none⟩ = some (.int .i64 p.x.kind) ∧ x.cell? ⟨wr.heap.size, 1, none⟩ = some (.string p.x.name) ∧ x.cell? ⟨wr.heap.size, 2, none⟩ = some (.int .i64 p.x.num) ∧ x.cell? ⟨wr.heap.size, 3, none⟩ = some (.slice p.A p.x.args.length p.a) ∧ x.cell? ⟨wr.heap.size, 4, none⟩ = some (.int .i64 p.y.kind) ∧ x.cell? ⟨wr.heap.size, 5, none⟩ = some (.string p.y.name) ∧ x.cell? ⟨wr.heap.size, 6, none⟩ = some (.int .i64 p.y.num) ∧ x.cell? ⟨wr.heap.size, 7, none⟩ = some (.slice p.A' p.y.args.length p.a') ∧ Below wa.heap.size wa x)
        (first | (with_reducible exact ⟨j0, j1, j2, j3, j4, j5, j6, j7, ed⟩) | (with_reducible exact ⟨m0, m1, m2, m3, m4, m5, m6, m7, hbB⟩) | (with_reducible exact ⟨n0, n1, n2, n3, n4, n5, n6, n7, hbA⟩))
        (first | (go_at_call 24; refine (argsOf_any _ _ _ _ _).mono ?_; rintro e wA ⟨rfl, hb1⟩; have hbA := ed.trans hb1; obtain ⟨n0, n1, n2, n3, n4, n5, n6, n7⟩ := KF.out wA hbA) | (go_at_call 24; refine (argsOf_any _ _ _ _ _).mono ?_; rintro e wB ⟨rfl, hb2⟩; have hbB := hbA.trans (hb2.mono hbA.size); obtain ⟨m0, m1, m2, m3, m4, m5, m6, m7⟩ := KF.out wB hbB))
      clear j0 j1 j2 j3 j4 j5 j6 j7 k0 k1 k2 k3 k4 k5 k6 k7 n0 n1 n2 n3 n4 n5 n6 n7
      have MB := Lib.hid (MA.out.below hbB)
      have hPB2 := hPB.below hbB hpbl
      clear hbA hb1 hb2 hPB hpbl KF MA ed hbB
      have hpbl := hPB2.lt
      have ht1 := HOK.out.1.move HMB.out MB.out.keep
      have ht2 := HOK.out.2.move HMB.out MB.out.keep
      have HEQ := Lib.hid (equalNodes_any p.x p.y _ _ wB ht1 ht2)
      clear ht1 ht2
      have hlm := HOK.out.1.args_of.2.1
      unfold maxLen at hlm
      cases hnb : nodesB p.x p.y
      · rw [hnb] at HEQ
        have hr := Lib.hid (show eqOtB a b = false by
          apply eqOtB_no
          intro e
          have h1 := HI.out.bwd e p (by simp)
          rw [h1] at hnb
          unfold nodesB at hnb
          simp at hnb)
        clear hnb
        go_wp2_with fail
        refine HEQ.out.mono ?_
        rintro e wC ⟨rfl, hb3⟩
        have hcall := MB.out.call
        go_wp2
        go_ret
        exact ⟨by rw [hr.out]; rfl, hcall.trans (hb3.mono hcall.size)⟩
      · rw [hnb] at HEQ
        have HNB := Lib.hid hnb
        clear hnb
        by_cases hl : p.x.args.length = p.y.args.length
        · have hneq : ((p.x.args.length : Int) != (p.y.args.length : Int)) = false := by rw [bne_eq_false_iff_eq]; omega
          have HL := Lib.hid hl
          obtain ⟨P, hP, hPok, hPc⟩ := place_of HMB.out HOK.out.1.args_of.2 p.a
          obtain ⟨Q, hQ, hQok, hQc⟩ := place_of HMB.out HOK.out.2.args_of.2 p.a'
          obtain ⟨o1, m1, ho1, hm1⟩ := plP_form P
          obtain ⟨o2, m2, ho2, hm2⟩ := plP_form Q
          have hkey := Lib.hid (show pl2Val (P, Q) = .agg #[.pointer o1, .int .i64 m1, .pointer o2, .int .i64 m2] by unfold pl2Val; rw [ho1, hm1, ho2, hm2])
          have hv1 := Lib.hid (show plVal P = .agg #[.pointer o1, .int .i64 m1] by rw [plVal_eq, ho1, hm1])
          have hv2 := Lib.hid (show plVal Q = .agg #[.pointer o2, .int .i64 m2] by rw [plVal_eq, ho2, hm2])
          clear ho1 hm1 ho2 hm2
          have HPC := Lib.hid hPc
          have HQC := Lib.hid hQc
          have HPA := Lib.hid hP
          have HQA := Lib.hid hQ
          have HPO := Lib.hid hPok
          have HQO := Lib.hid hQok
          clear hl hP hPok hPc hQ hQok hQc
          go_wp2_with fail
          refine HEQ.out.mono ?_
          rintro e wC ⟨rfl, hb3⟩
          have MC := Lib.hid (MB.out.below hb3)
          clear MB hb3 hPB2 hpbl HEQ
          go_wp2_with fail
          refine (HPC.out wC).mono ?_
          rintro e wD ⟨rfl, hb4⟩
          rw [hv1.out]
          have MD := Lib.hid (MC.out.below hb4)
          clear MC hb4
          go_wp2_with fail
          refine (HQC.out wD).mono ?_
          rintro e wE ⟨rfl, hb5⟩
          rw [hv2.out]
          have ME := Lib.hid (MD.out.below hb5)
          clear MD hb5
          go_upto_region 10 with fail
          have hb6 := (Below.refl wE.heap.size wE).alloc (Nat.le_refl _) (.cells #[.pointer o1, .int .i64 m1, .pointer o2, .int .i64 m2] 79)
          have hM6 := ME.out.below hb6
          have hKB := Whole1.new wE 79 #[.pointer o1, .int .i64 m1, .pointer o2, .int .i64 m2]
          clear ME hb6
          generalize wE.alloc (.cells #[.pointer o1, .int .i64 m1, .pointer o2, .int .i64 m2] 79) = w6 at *
          have g0 : w6.cell? ⟨wE.heap.size, 0, none⟩ = some (.pointer o1) := hKB.cell 0
          have g1 : w6.cell? ⟨wE.heap.size, 1, none⟩ = some (.int .i64 m1) := hKB.cell 1
          have g2 : w6.cell? ⟨wE.heap.size, 2, none⟩ = some (.pointer o2) := hKB.cell 2
          have g3 : w6.cell? ⟨wE.heap.size, 3, none⟩ = some (.int .i64 m2) := hKB.cell 3
          have hz : (zeroValue 4).run Tryz.prog w6 = .ok (.bool false) w6 := by kernel_rfl
          have hlook := hM6.known.look1 (pl2Kit w1 (w.heap.size + 3) (w.heap.size + 2)) Tryz.underlying72 hz hM6.keep (k := (P, Q)) ⟨HPO.out, HQO.out⟩
          rw [hkey.out] at hlook
          have M6 := Lib.hid hM6
          clear hz hM6
          cases hF : F (P, Q) with
          | some u =>
            have hu := HI.out.vals _ _ hF
            subst hu
            have HFK := Lib.hid hF
            rw [hF] at hlook
            have hl2 : (Instr.lookup 72 (.map (some (w.heap.size + 2))) (.agg #[.pointer o1, .int .i64 m1, .pointer o2, .int .i64 m2]) false).run Tryz.prog w6 = .ok (.bool true) w6 := hlook
            clear hlook hF hKB
            go_wp2
            go_roundg (pSize r)
            case measure =>
              have := sizeOt_eq p.x
              rw [← HMU.out, pSize]
              omega
            case rel =>
              have hM := M6.out
              exact ⟨r, F, HI.out.skip HNB.out HPA.out HQA.out HFK.out (by have := hM.own; rw [HN.out] at this ⊢; exact this) hM.keep hM.call hM.known hM.size, rfl⟩
          | none =>
            rw [hF] at hlook
            have hl2 : (Instr.lookup 72 (.map (some (w.heap.size + 2))) (.agg #[.pointer o1, .int .i64 m1, .pointer o2, .int .i64 m2]) false).run Tryz.prog w6 = .ok (.bool false) w6 := hlook
            obtain ⟨w7, hrun7, hkn7, ho7⟩ := M6.out.known.store (pl2Kit w1 (w.heap.size + 3) (w.heap.size + 2)) Tryz.underlying72 M6.out.keep (k := (P, Q)) ⟨HPO.out, HQO.out⟩ (.bool true)
            rw [hkey.out] at hrun7
            have hM7 : Hid (Mid w1 (w.heap.size + 3) (w.heap.size + 2) w w7 (.slice (some ⟨q, 0, none⟩) n cap) n (pCells r) (put F (P, Q) (.bool true))) := Lib.hid {
              own := owns_keep4 M6.out.own fun g hg => ho7.1.block g (M6.out.own.lt g hg).2 (fun e => by have := (M6.out.own.lt g hg).1; injection e with e; omega)
              keep := fun g hg hne => (ho7.1.block g (Nat.lt_of_lt_of_le hg M6.out.size) (fun e => hne (Option.some.inj e))).trans (M6.out.keep g hg hne)
              call := M6.out.call.grown ho7.1 M6.out.call.size (fun k hk => by cases hk; omega)
              known := hkn7
              size := by have := M6.out.size; have := ho7.2; omega }
            clear hlook hF hkn7 ho7 M6 hKB
            obtain ⟨i1, hi1, hy0, hy1, hy2⟩ := info_parts infoPair
            have HXA := Lib.hid HOK.out.1.args_of.2
            have HYA := Lib.hid HOK.out.2.args_of.2
            have hpx := sizeOt_eq p.x
            go_upto_region 12 with fail
            clear hl2 hrun7 g0 g1 g2 g3
            go_wp2
            go_loopw [10, 69] (fun v i wr => ∃ (k : Nat) (ks : List Pr), k ≤ p.x.args.length ∧ i = .int .i64 k ∧ Kids w1 (w.heap.size + 3) p.x.args p.y.args k ks ∧ Mid w1 (w.heap.size + 3) (w.heap.size + 2) w wr v (ks ++ r).length (pCells (ks ++ r)) (put F (P, Q) (.bool true))) (fun _ i _ => p.x.args.length - (intOf i).toNat)
            case atStart => exact ⟨0, [], Nat.zero_le _, rfl, Kids.nil _ _ _ _, by have := hM7.out; rw [HN.out] at this ⊢; exact this⟩
            case round =>
              obtain ⟨k, ks, hk, rfl, hkids, hmid⟩ := hrel
              have HKS := Lib.hid hkids
              have HMD := Lib.hid hmid
              have hksl : (ks ++ r).length = k + n := by rw [List.length_append, hkids.len, HN.out]
              have hkm := sizeOts_le p.x.args k
              have hksz := hkids.size
              have hkl := pSize_len ks
              have hkl2 := hkids.len
              clear hkids hmid
              by_cases hlt : k < p.x.args.length
              · have hlt2 : k < p.y.args.length := by have := HL.out; omega
                have i3 : (k : Int) < (p.x.args.length : Int) := by omega
                have i4 : (k : Int) < (p.y.args.length : Int) := by omega
                obtain ⟨g1, N1, nc1, hA1, hgB1, ⟨t1, cs1, hw1⟩, x0, x1, x2, x3, hT1⟩ := HXA.out.elem3 k hlt
                obtain ⟨g2, N2, nc2, hA2, hgB2, ⟨t2, cs2, hw2⟩, y0, y1, y2, y3, hT2⟩ := HYA.out.elem3 k hlt2
                have hkp := fun (o : Nat) => World.cell?_of_block (w := w1) (w' := wr) (a := ⟨g1, o, none⟩) (HMD.out.keep g1 hgB1 (fun e => HMB.out _ _ (e ▸ hw1)))
                have hkp2 := fun (o : Nat) => World.cell?_of_block (w := w1) (w' := wr) (a := ⟨g2, o, none⟩) (HMD.out.keep g2 hgB2 (fun e => HMB.out _ _ (e ▸ hw2)))
                have z0 := (hkp _).trans x0
                have z1 := (hkp _).trans x1
                have z2 := (hkp _).trans x2
                have z3 := (hkp _).trans x3
                have z4 := (hkp2 _).trans y0
                have z5 := (hkp2 _).trans y1
                have z6 := (hkp2 _).trans y2
                have z7 := (hkp2 _).trans y3
                have HT1 := Lib.hid hT1
                have HT2 := Lib.hid hT2
                clear hkp hkp2 x0 x1 x2 x3 y0 y1 y2 y3 hT1 hT2 hw1 hw2
                rw [hA1, hA2]
                go_upto_region 15 with fail
                have hbb := HMD.out.size
                have hcc := HMD.out.call.size
                have keepf : ∀ x : World, (∀ g, g < w.heap.size + 3 → x.heap[g]? = wr.heap[g]?) → x.cell? ⟨g1, k * 4, none⟩ = some (.int .i64 p.x.args[k].kind) ∧ x.cell? ⟨g1, k * 4 + 1, none⟩ = some (.string p.x.args[k].name) ∧ x.cell? ⟨g1, k * 4 + 2, none⟩ = some (.int .i64 p.x.args[k].num) ∧ x.cell? ⟨g1, k * 4 + 3, none⟩ = some (.slice N1 p.x.args[k].args.length nc1) ∧ x.cell? ⟨g2, k * 4, none⟩ = some (.int .i64 p.y.args[k].kind) ∧ x.cell? ⟨g2, k * 4 + 1, none⟩ = some (.string p.y.args[k].name) ∧ x.cell? ⟨g2, k * 4 + 2, none⟩ = some (.int .i64 p.y.args[k].num) ∧ x.cell? ⟨g2, k * 4 + 3, none⟩ = some (.slice N2 p.y.args[k].args.length nc2) := fun x hx =>
                  ⟨(World.cell?_of_block (a := ⟨g1, k * 4, none⟩) (hx g1 hgB1)).trans z0, (World.cell?_of_block (a := ⟨g1, k * 4 + 1, none⟩) (hx g1 hgB1)).trans z1, (World.cell?_of_block (a := ⟨g1, k * 4 + 2, none⟩) (hx g1 hgB1)).trans z2, (World.cell?_of_block (a := ⟨g1, k * 4 + 3, none⟩) (hx g1 hgB1)).trans z3, (World.cell?_of_block (a := ⟨g2, k * 4, none⟩) (hx g2 hgB2)).trans z4, (World.cell?_of_block (a := ⟨g2, k * 4 + 1, none⟩) (hx g2 hgB2)).trans z5, (World.cell?_of_block (a := ⟨g2, k * 4 + 2, none⟩) (hx g2 hgB2)).trans z6, (World.cell?_of_block (a := ⟨g2, k * 4 + 3, none⟩) (hx g2 hgB2)).trans z7⟩
                have MD := Lib.hid (HMD.out.below (w' := wr.drew) ⟨rfl, rfl, rfl, Nat.le_refl _, fun _ _ => rfl⟩)
                have hba : Below wr.heap.size wr (wr.alloc (.cells #[.int .i64 p.x.args[k].kind, .string p.x.args[k].name, .int .i64 p.x.args[k].num, .slice N1 p.x.args[k].args.length nc1, .int .i64 p.y.args[k].kind, .string p.y.args[k].name, .int .i64 p.y.args[k].num, .slice N2 p.y.args[k].args.length nc2] 73)).drew := ((Below.refl wr.heap.size wr).alloc (Nat.le_refl _) _).drew
                have hownA : World.ownsRow (wr.alloc (.cells #[.int .i64 p.x.args[k].kind, .string p.x.args[k].name, .int .i64 p.x.args[k].num, .slice N1 p.x.args[k].args.length nc1, .int .i64 p.y.args[k].kind, .string p.y.args[k].name, .int .i64 p.y.args[k].num, .slice N2 p.y.args[k].args.length nc2] 73)).drew _ _ _ _ _ _ := HMD.out.own.alloc (.cells #[.int .i64 p.x.args[k].kind, .string p.x.args[k].name, .int .i64 p.x.args[k].num, .slice N1 p.x.args[k].args.length nc1, .int .i64 p.y.args[k].kind, .string p.y.args[k].name, .int .i64 p.y.args[k].num, .slice N2 p.y.args[k].args.length nc2] 73)
                obtain ⟨j0, j1, j2, j3, j4, j5, j6, j7⟩ := keepf wr.drew (fun _ _ => rfl)
                obtain ⟨k0, k1, k2, k3, k4, k5, k6, k7⟩ := keepf (wr.alloc (.cells #[.int .i64 p.x.args[k].kind, .string p.x.args[k].name, .int .i64 p.x.args[k].num, .slice N1 p.x.args[k].args.length nc1, .int .i64 p.y.args[k].kind, .string p.y.args[k].name, .int .i64 p.y.args[k].num, .slice N2 p.y.args[k].args.length nc2] 73)).drew (fun g hg => hba.block g (by omega))
                have hvb := fun g (hg : u10.ownBlock = some g) => MD.out.own.lt g hg
                have HVB := Lib.hid hvb
                have KF := Lib.hid keepf
                have HBA := Lib.hid hba
                clear z0 z1 z2 z3 z4 z5 z6 z7 hvb keepf hba
                go_region_held_law (fun x : World => x.cell? ⟨g1, k * 4, none⟩ = some (.int .i64 p.x.args[k].kind) ∧ x.cell? ⟨g1, k * 4 + 1, none⟩ = some (.string p.x.args[k].name) ∧ x.cell? ⟨g1, k * 4 + 2, none⟩ = some (.int .i64 p.x.args[k].num) ∧ x.cell? ⟨g1, k * 4 + 3, none⟩ = some (.slice N1 p.x.args[k].args.length nc1) ∧ x.cell? ⟨g2, k * 4, none⟩ = some (.int .i64 p.y.args[k].kind) ∧ x.cell? ⟨g2, k * 4 + 1, none⟩ = some (.string p.y.args[k].name) ∧ x.cell? ⟨g2, k * 4 + 2, none⟩ = some (.int .i64 p.y.args[k].num) ∧ x.cell? ⟨g2, k * 4 + 3, none⟩ = some (.slice N2 p.y.args[k].args.length nc2))
                  (first | (with_reducible exact ⟨j0, j1, j2, j3, j4, j5, j6, j7⟩) | (with_reducible exact ⟨k0, k1, k2, k3, k4, k5, k6, k7⟩) | (with_reducible exact ⟨s0, s1, s2, s3, s4, s5, s6, s7⟩))
                  (first | (refine step_append_cells _ (by rfl) (.tmp 72) (.tmp 82) _ (by rfl) (w.heap.size + 3) 73 i1 (.agg #[.int .i64 0, .string ⟨#[]⟩, .int .i64 0, .slice none 0 0, .int .i64 0, .string ⟨#[]⟩, .int .i64 0, .slice none 0 0]) 8 112 Tryz.underlying74 hi1 hy0 hy1 hy2 rfl (by decide) _ (ks ++ r).length _ (by rfl) hownA (some ⟨wr.heap.size, 0, none⟩) 1 1 (prCells ⟨p.x.args[k], p.y.args[k], N1, nc1, N2, nc2⟩) (by rfl) rfl (newsN wr _ _) (onesN _) (by unfold maxLen; omega) (by omega) (by simp; omega) ?_; intro v11 w11 hown11 hg11; have hb11 : ∀ g, g < w.heap.size + 3 → w11.heap[g]? = wr.heap[g]? := fun g hg => (hg11.block g (by simp; omega) (fun e => by have := (HVB.out g e.symm).1; omega)).trans (HBA.out.block g (by omega)); obtain ⟨s0, s1, s2, s3, s4, s5, s6, s7⟩ := KF.out w11 hb11))
                clear j0 j1 j2 j3 j4 j5 j6 j7 k0 k1 k2 k3 k4 k5 k6 k7 s0 s1 s2 s3 s4 s5 s6 s7
                have HOWN11 := Lib.hid hown11
                have HG11 := Lib.hid hg11
                have HB11 := Lib.hid hb11
                clear hown11 hg11 hownA hb11
                go_wp2
                go_roundw
                case rel =>
                  refine ⟨k + 1, ⟨p.x.args[k], p.y.args[k], N1, nc1, N2, nc2⟩ :: ks, by omega, by go_num, HKS.out.snoc hlt hlt2 _ rfl rfl ⟨HT1.out, HT2.out⟩, { own := HOWN11.out, keep := fun g hg hne => (HB11.out g hg).trans (MD.out.keep g hg hne), call := ?_, known := MD.out.known.keep (HB11.out _ (by omega)), size := by have := HG11.out.size; simp at this; omega }⟩
                  exact (HMD.out.call.trans (HBA.out.mono hcc)).grown HG11.out (by simp; omega) (fun g hg => by have := (HVB.out g hg).1; omega)
                case measure => simp [intOf]; omega
              · have hke : k = p.x.args.length := by omega
                subst hke
                go_wp2
                go_roundg (pSize (ks ++ r))
                case measure =>
                  rw [← HMU.out, pSize_append, pSize, hksz, List.take_length]
                  omega
                case rel =>
                  have hM := HMD.out
                  exact ⟨ks ++ r, _, HI.out.push HNB.out HL.out HPA.out HQA.out HKS.out hM.own hM.keep hM.call hM.known hM.size, rfl⟩
        · have hneq : ((p.x.args.length : Int) != (p.y.args.length : Int)) = true := by rw [bne_iff_ne]; omega
          have hr := Lib.hid (show eqOtB a b = false by
            apply eqOtB_no
            intro e
            have h1 := HI.out.bwd e p (by simp)
            exact hl (by rw [h1]))
          clear hl
          go_wp2_with fail
          refine HEQ.out.mono ?_
          rintro e wC ⟨rfl, hb3⟩
          have hcall := MB.out.call
          go_wp2
          go_ret
          exact ⟨by rw [hr.out]; rfl, hcall.trans (hb3.mono hcall.size)⟩

end Go.Proofs.YtlmbnefoobameaaGreatDoor.O

namespace Go.Proofs.YtlmbnefoobameaaGreatDoor.O
set_option maxRecDepth 100000
open Go.RowKit

set_option maxHeartbeats 1000000 in
theorem implEqualO_any (a b : Ot) (va vb : Value) (w : World) (ha : OwnO w va a) (hb : OwnO w vb b) (hsz : sizeOt a ≤ 2000000) : Calls Tryz.prog 10 #[va, vb] w (BoolIs (eqOtB a b) w) := by
  obtain ⟨A, ac, rfl, _⟩ := ha.open
  obtain ⟨A', ac', rfl, _⟩ := hb.open
  obtain ⟨hb0, p0, q0, hs0⟩ := boxes2 w 26 26 #[.int .i64 a.kind, .string a.name, .int .i64 a.num, .slice A a.args.length ac] #[.int .i64 b.kind, .string b.name, .int .i64 b.num, .slice A' b.args.length ac']
  have HE := Lib.hid (equalTrees_any a b _ _ _ (ha.up hb0) (hb.up hb0) hsz)
  clear ha hb hs0
  go_enter Tryz.func10, Tryz.ntmps10
  go_wp2_with fail
  refine HE.out.mono ?_
  rintro e w1 ⟨rfl, hb1⟩
  go_wp2
  go_ret
  exact ⟨rfl, hb0.trans (hb1.mono hb0.size)⟩

end Go.Proofs.YtlmbnefoobameaaGreatDoor.O
end
