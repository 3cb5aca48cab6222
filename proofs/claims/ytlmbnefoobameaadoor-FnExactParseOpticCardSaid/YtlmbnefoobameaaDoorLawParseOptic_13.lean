/- Lemmas: ROWord, ROptic, ImplOForm, ImplOParse. -/
import Derived.Test.YtlmbnefoobameaaDoorLawParseOptic_12
import Derived.Test.YtlmbnefoobameaaDoorLawParseOptic_6
import Derived.Test.YtlmbnefoobameaaDoorLawParseOptic_4
import Derived.Test.YtlmbnefoobameaaDoorLawParseOptic_10
import Derived.Deep.MidRow

section
namespace Go.Proofs.YtlmbnefoobameaaDoor.OI
open Go Go.RowKit
attribute [local go_sem ↓] Go.wp_at_zero Go.wp_at_succ

set_option maxHeartbeats 16000000 in
set_option maxRecDepth 100000 in
theorem readWord_any (n : Nat) (d d' : Int) (hd : IntKind.i64.wrap (d - 1) = d') (H : ReadR n d') (B : Nat) (w : World) (ps pa j : Nat) (s : ByteArray) (hr : RO B w ps pa s j) (hs : s.size ≤ 1048576) :
    Calls Tryd.prog 115 #[rdv ps pa, .int .i64 d] w (PostR (rdWordO (rdOi n) ((restOf s j).takeWhile wordC) ((restOf s j).dropWhile wordC)) B ps pa s w) := by
  have HH0 := Lib.hid (Hold.start hr)
  have HR := Lib.hid H
  clear hr H
  go_enter Tryd.func115, Tryd.ntmps115
  go_upto_region 1 with fail
  generalize (w.alloc (.cells #[rdAcc ps pa, rdTak ps pa, rdEnd ps pa] 87)).alloc (.cells #[.int .i64 0, .string ⟨#[]⟩, .int .i64 0, .slice none 0 0] 50) = wa at *
  have b0 : wa.cell? ⟨w.heap.size, 0, none⟩ = some (rdAcc ps pa) := HH0.out.rdr.cell 0
  have b1 : wa.cell? ⟨w.heap.size, 1, none⟩ = some (rdTak ps pa) := HH0.out.rdr.cell 1
  have b2 : wa.cell? ⟨w.heap.size, 2, none⟩ = some (rdEnd ps pa) := HH0.out.rdr.cell 2
  have HT := Lib.hid (takeRun_any 114 enters_name nameR wordC nameR_byte nameR_high pred_name ps pa j s wa HH0.out.rd.rd hs)
  go_wp2_with fail
  refine HT.out.mono ?_
  rintro e w1 ⟨k1, hk1, ⟨rfl, hr3, hg3⟩, hd3, ht3⟩
  have HH1 := Lib.hid (HH0.out.read hr3 hg3)
  have hwz : (s.extract j k1).size ≤ maxLen := by rw [ByteArray.size_extract]; unfold maxLen; omega
  have HXA := Lib.hid (show rdWordO (rdOi n) ((restOf s j).takeWhile wordC) ((restOf s j).dropWhile wordC) = rdWordO (rdOi n) (s.extract j k1).data.toList (restOf s k1) by rw [hd3, ← ht3])
  have hwz2 : (s.extract j k1).size ≤ 1048576 := by rw [ByteArray.size_extract]; omega
  clear hr3 hg3 hd3 ht3 b0 b1 b2 hwz
  have b0 : w1.cell? ⟨w.heap.size, 0, none⟩ = some (rdAcc ps pa) := HH1.out.rdr.cell 0
  have b1 : w1.cell? ⟨w.heap.size, 1, none⟩ = some (rdTak ps pa) := HH1.out.rdr.cell 1
  have b2 : w1.cell? ⟨w.heap.size, 2, none⟩ = some (rdEnd ps pa) := HH1.out.rdr.cell 2
  by_cases hu : (s.extract j k1).data.toList = [105, 100]
  · have hq1 : ((s.extract j k1).toList == [105, 100]) = true := by rw [ByteArray.toList_eq, hu]; simp
    have HX := Lib.hid (show rdWordO (rdOi n) (s.extract j k1).data.toList (restOf s k1) = some (.mk 1 0 ⟨#[]⟩ [], restOf s k1) by rw [rdWordO, if_pos hu])
    clear hu
    have d0 : w1.cell? ⟨w.heap.size + 1, 0, none⟩ = some (.int .i64 0) := HH1.out.zero.cell 0
    have d1 : w1.cell? ⟨w.heap.size + 1, 1, none⟩ = some (.string ⟨#[]⟩) := HH1.out.zero.cell 1
    have d2 : w1.cell? ⟨w.heap.size + 1, 2, none⟩ = some (.int .i64 0) := HH1.out.zero.cell 2
    have d3 : w1.cell? ⟨w.heap.size + 1, 3, none⟩ = some (.slice none 0 0) := HH1.out.zero.cell 3
    have f0 : w1.frozen? ⟨w.heap.size + 1, 0, none⟩ = false := HH1.out.zero.free 0
    have f1 : w1.frozen? ⟨w.heap.size + 1, 1, none⟩ = false := HH1.out.zero.free 1
    have f2 : w1.frozen? ⟨w.heap.size + 1, 2, none⟩ = false := HH1.out.zero.free 2
    have f3 : w1.frozen? ⟨w.heap.size + 1, 3, none⟩ = false := HH1.out.zero.free 3
    go_wp2
    exact bodyPost_ret (v := .tuple #[.agg #[.int .i64 1, .string ⟨#[]⟩, .int .i64 0, .slice none 0 0], .bool true]) (by simp [results, Tryd.results115, go_sem, d0, d1, d2, d3]) rfl (HH1.out.yes (HXA.out.trans HX.out) (OwnOt.leaf _ _ 1 0 ⟨#[]⟩ (Nat.zero_le _)) _ _ _ _)
  · have hq1 : ((s.extract j k1).toList == [105, 100]) = false := by rw [ByteArray.toList_eq, beq_eq_false_iff_ne]; exact hu
    have HN1 := Lib.hid hu
    clear hu
    by_cases hu : (s.extract j k1).data.toList = [101, 97, 99, 104]
    · have hq4 : ((s.extract j k1).toList == [101, 97, 99, 104]) = true := by rw [ByteArray.toList_eq, hu]; simp
      have HX := Lib.hid (show rdWordO (rdOi n) (s.extract j k1).data.toList (restOf s k1) = some (.mk 4 0 ⟨#[]⟩ [], restOf s k1) by rw [rdWordO, if_neg HN1.out, if_pos hu])
      clear hu
      have d0 : w1.cell? ⟨w.heap.size + 1, 0, none⟩ = some (.int .i64 0) := HH1.out.zero.cell 0
      have d1 : w1.cell? ⟨w.heap.size + 1, 1, none⟩ = some (.string ⟨#[]⟩) := HH1.out.zero.cell 1
      have d2 : w1.cell? ⟨w.heap.size + 1, 2, none⟩ = some (.int .i64 0) := HH1.out.zero.cell 2
      have d3 : w1.cell? ⟨w.heap.size + 1, 3, none⟩ = some (.slice none 0 0) := HH1.out.zero.cell 3
      have f0 : w1.frozen? ⟨w.heap.size + 1, 0, none⟩ = false := HH1.out.zero.free 0
      have f1 : w1.frozen? ⟨w.heap.size + 1, 1, none⟩ = false := HH1.out.zero.free 1
      have f2 : w1.frozen? ⟨w.heap.size + 1, 2, none⟩ = false := HH1.out.zero.free 2
      have f3 : w1.frozen? ⟨w.heap.size + 1, 3, none⟩ = false := HH1.out.zero.free 3
      go_wp2
      exact bodyPost_ret (v := .tuple #[.agg #[.int .i64 4, .string ⟨#[]⟩, .int .i64 0, .slice none 0 0], .bool true]) (by simp [results, Tryd.results115, go_sem, d0, d1, d2, d3]) rfl (HH1.out.yes (HXA.out.trans HX.out) (OwnOt.leaf _ _ 4 0 ⟨#[]⟩ (Nat.zero_le _)) _ _ _ _)
    · have hq4 : ((s.extract j k1).toList == [101, 97, 99, 104]) = false := by rw [ByteArray.toList_eq, beq_eq_false_iff_ne]; exact hu
      have HN4 := Lib.hid hu
      clear hu
      by_cases hu : (s.extract j k1).data.toList = [97, 108, 108]
      · have hq5 : ((s.extract j k1).toList == [97, 108, 108]) = true := by rw [ByteArray.toList_eq, hu]; simp
        have HX := Lib.hid (show rdWordO (rdOi n) (s.extract j k1).data.toList (restOf s k1) = some (.mk 5 0 ⟨#[]⟩ [], restOf s k1) by rw [rdWordO, if_neg HN1.out, if_neg HN4.out, if_pos hu])
        clear hu
        have d0 : w1.cell? ⟨w.heap.size + 1, 0, none⟩ = some (.int .i64 0) := HH1.out.zero.cell 0
        have d1 : w1.cell? ⟨w.heap.size + 1, 1, none⟩ = some (.string ⟨#[]⟩) := HH1.out.zero.cell 1
        have d2 : w1.cell? ⟨w.heap.size + 1, 2, none⟩ = some (.int .i64 0) := HH1.out.zero.cell 2
        have d3 : w1.cell? ⟨w.heap.size + 1, 3, none⟩ = some (.slice none 0 0) := HH1.out.zero.cell 3
        have f0 : w1.frozen? ⟨w.heap.size + 1, 0, none⟩ = false := HH1.out.zero.free 0
        have f1 : w1.frozen? ⟨w.heap.size + 1, 1, none⟩ = false := HH1.out.zero.free 1
        have f2 : w1.frozen? ⟨w.heap.size + 1, 2, none⟩ = false := HH1.out.zero.free 2
        have f3 : w1.frozen? ⟨w.heap.size + 1, 3, none⟩ = false := HH1.out.zero.free 3
        go_wp2
        exact bodyPost_ret (v := .tuple #[.agg #[.int .i64 5, .string ⟨#[]⟩, .int .i64 0, .slice none 0 0], .bool true]) (by simp [results, Tryd.results115, go_sem, d0, d1, d2, d3]) rfl (HH1.out.yes (HXA.out.trans HX.out) (OwnOt.leaf _ _ 5 0 ⟨#[]⟩ (Nat.zero_le _)) _ _ _ _)
      · have hq5 : ((s.extract j k1).toList == [97, 108, 108]) = false := by rw [ByteArray.toList_eq, beq_eq_false_iff_ne]; exact hu
        have HN5 := Lib.hid hu
        clear hu
        by_cases hu : (s.extract j k1).data.toList = [110, 111, 116]
        · have hq8 : ((s.extract j k1).toList == [110, 111, 116]) = true := by rw [ByteArray.toList_eq, hu]; simp
          have HX := Lib.hid (show rdWordO (rdOi n) (s.extract j k1).data.toList (restOf s k1) = some (.mk 8 0 ⟨#[]⟩ [], restOf s k1) by rw [rdWordO, if_neg HN1.out, if_neg HN4.out, if_neg HN5.out, if_pos hu])
          clear hu
          have d0 : w1.cell? ⟨w.heap.size + 1, 0, none⟩ = some (.int .i64 0) := HH1.out.zero.cell 0
          have d1 : w1.cell? ⟨w.heap.size + 1, 1, none⟩ = some (.string ⟨#[]⟩) := HH1.out.zero.cell 1
          have d2 : w1.cell? ⟨w.heap.size + 1, 2, none⟩ = some (.int .i64 0) := HH1.out.zero.cell 2
          have d3 : w1.cell? ⟨w.heap.size + 1, 3, none⟩ = some (.slice none 0 0) := HH1.out.zero.cell 3
          have f0 : w1.frozen? ⟨w.heap.size + 1, 0, none⟩ = false := HH1.out.zero.free 0
          have f1 : w1.frozen? ⟨w.heap.size + 1, 1, none⟩ = false := HH1.out.zero.free 1
          have f2 : w1.frozen? ⟨w.heap.size + 1, 2, none⟩ = false := HH1.out.zero.free 2
          have f3 : w1.frozen? ⟨w.heap.size + 1, 3, none⟩ = false := HH1.out.zero.free 3
          go_wp2
          exact bodyPost_ret (v := .tuple #[.agg #[.int .i64 8, .string ⟨#[]⟩, .int .i64 0, .slice none 0 0], .bool true]) (by simp [results, Tryd.results115, go_sem, d0, d1, d2, d3]) rfl (HH1.out.yes (HXA.out.trans HX.out) (OwnOt.leaf _ _ 8 0 ⟨#[]⟩ (Nat.zero_le _)) _ _ _ _)
        · have hq8 : ((s.extract j k1).toList == [110, 111, 116]) = false := by rw [ByteArray.toList_eq, beq_eq_false_iff_ne]; exact hu
          have HN8 := Lib.hid hu
          clear hu
          by_cases hu : (s.extract j k1).data.toList = [114, 101, 118]
          · have hq9 : ((s.extract j k1).toList == [114, 101, 118]) = true := by rw [ByteArray.toList_eq, hu]; simp
            have HX := Lib.hid (show rdWordO (rdOi n) (s.extract j k1).data.toList (restOf s k1) = some (.mk 9 0 ⟨#[]⟩ [], restOf s k1) by rw [rdWordO, if_neg HN1.out, if_neg HN4.out, if_neg HN5.out, if_neg HN8.out, if_pos hu])
            clear hu
            have d0 : w1.cell? ⟨w.heap.size + 1, 0, none⟩ = some (.int .i64 0) := HH1.out.zero.cell 0
            have d1 : w1.cell? ⟨w.heap.size + 1, 1, none⟩ = some (.string ⟨#[]⟩) := HH1.out.zero.cell 1
            have d2 : w1.cell? ⟨w.heap.size + 1, 2, none⟩ = some (.int .i64 0) := HH1.out.zero.cell 2
            have d3 : w1.cell? ⟨w.heap.size + 1, 3, none⟩ = some (.slice none 0 0) := HH1.out.zero.cell 3
            have f0 : w1.frozen? ⟨w.heap.size + 1, 0, none⟩ = false := HH1.out.zero.free 0
            have f1 : w1.frozen? ⟨w.heap.size + 1, 1, none⟩ = false := HH1.out.zero.free 1
            have f2 : w1.frozen? ⟨w.heap.size + 1, 2, none⟩ = false := HH1.out.zero.free 2
            have f3 : w1.frozen? ⟨w.heap.size + 1, 3, none⟩ = false := HH1.out.zero.free 3
            go_wp2
            exact bodyPost_ret (v := .tuple #[.agg #[.int .i64 9, .string ⟨#[]⟩, .int .i64 0, .slice none 0 0], .bool true]) (by simp [results, Tryd.results115, go_sem, d0, d1, d2, d3]) rfl (HH1.out.yes (HXA.out.trans HX.out) (OwnOt.leaf _ _ 9 0 ⟨#[]⟩ (Nat.zero_le _)) _ _ _ _)
          · have hq9 : ((s.extract j k1).toList == [114, 101, 118]) = false := by rw [ByteArray.toList_eq, beq_eq_false_iff_ne]; exact hu
            have HN9 := Lib.hid hu
            clear hu
            by_cases hu : (s.extract j k1).data.toList = [97, 116]
            · have hq6 : ((s.extract j k1).toList == [97, 116]) = true := by rw [ByteArray.toList_eq, hu]; simp
              have HX := Lib.hid (show rdWordO (rdOi n) (s.extract j k1).data.toList (restOf s k1) = rdStepO 6 (restOf s k1) by rw [rdWordO, if_neg HN1.out, if_neg HN4.out, if_neg HN5.out, if_neg HN8.out, if_neg HN9.out, if_pos hu])
              clear hu
              have HS := Lib.hid (readStep_any 6 B w1 ps pa k1 s HH1.out.rd hs)
              have hz1 := HH1.out.zero.lt
              go_wp2_with fail
              refine HS.out.mono ?_
              rintro e w3 ⟨k3, nm3, n3, A3, m3, ac3, ok3, j3, rfl, hr3, hg3, hor⟩
              have HH3 := Lib.hid (HH1.out.read' hr3 hg3)
              have hor2 : (ok3 = false ∧ rdWordO (rdOi n) ((restOf s j).takeWhile wordC) ((restOf s j).dropWhile wordC) = none) ∨ (ok3 = true ∧ ∃ t, rdWordO (rdOi n) ((restOf s j).takeWhile wordC) ((restOf s j).dropWhile wordC) = some (t, restOf s j3) ∧ OwnOt w3 (w.heap.size + 2) (.agg #[.int .i64 k3, .string nm3, .int .i64 n3, .slice A3 m3 ac3]) t) := by
                rw [HXA.out, HX.out]
                exact hor.imp id fun ⟨h1, t, h2, h3⟩ => ⟨h1, t, h2, h3.base (by omega)⟩
              have HOR := Lib.hid hor2
              clear hr3 hg3 hor hor2 b0 b1 b2
              have d0 : w3.cell? ⟨w.heap.size + 1, 0, none⟩ = some (.int .i64 0) := HH3.out.zero.cell 0
              have d1 : w3.cell? ⟨w.heap.size + 1, 1, none⟩ = some (.string ⟨#[]⟩) := HH3.out.zero.cell 1
              have d2 : w3.cell? ⟨w.heap.size + 1, 2, none⟩ = some (.int .i64 0) := HH3.out.zero.cell 2
              have d3 : w3.cell? ⟨w.heap.size + 1, 3, none⟩ = some (.slice none 0 0) := HH3.out.zero.cell 3
              have f0 : w3.frozen? ⟨w.heap.size + 1, 0, none⟩ = false := HH3.out.zero.free 0
              have f1 : w3.frozen? ⟨w.heap.size + 1, 1, none⟩ = false := HH3.out.zero.free 1
              have f2 : w3.frozen? ⟨w.heap.size + 1, 2, none⟩ = false := HH3.out.zero.free 2
              have f3 : w3.frozen? ⟨w.heap.size + 1, 3, none⟩ = false := HH3.out.zero.free 3
              go_wp2
              exact bodyPost_ret (v := .tuple #[.agg #[.int .i64 k3, .string nm3, .int .i64 n3, .slice A3 m3 ac3], .bool ok3]) (by simp [results, Tryd.results115, go_sem, d0, d1, d2, d3]) rfl (HH3.out.pass HOR.out _ _ _ _)
            · have hq6 : ((s.extract j k1).toList == [97, 116]) = false := by rw [ByteArray.toList_eq, beq_eq_false_iff_ne]; exact hu
              have HN6 := Lib.hid hu
              clear hu
              by_cases hu : (s.extract j k1).data.toList = [97, 100, 100]
              · have hq7 : ((s.extract j k1).toList == [97, 100, 100]) = true := by rw [ByteArray.toList_eq, hu]; simp
                have HX := Lib.hid (show rdWordO (rdOi n) (s.extract j k1).data.toList (restOf s k1) = rdStepO 7 (restOf s k1) by rw [rdWordO, if_neg HN1.out, if_neg HN4.out, if_neg HN5.out, if_neg HN8.out, if_neg HN9.out, if_neg HN6.out, if_pos hu])
                clear hu
                have HS := Lib.hid (readStep_any 7 B w1 ps pa k1 s HH1.out.rd hs)
                have hz1 := HH1.out.zero.lt
                go_wp2_with fail
                refine HS.out.mono ?_
                rintro e w3 ⟨k3, nm3, n3, A3, m3, ac3, ok3, j3, rfl, hr3, hg3, hor⟩
                have HH3 := Lib.hid (HH1.out.read' hr3 hg3)
                have hor2 : (ok3 = false ∧ rdWordO (rdOi n) ((restOf s j).takeWhile wordC) ((restOf s j).dropWhile wordC) = none) ∨ (ok3 = true ∧ ∃ t, rdWordO (rdOi n) ((restOf s j).takeWhile wordC) ((restOf s j).dropWhile wordC) = some (t, restOf s j3) ∧ OwnOt w3 (w.heap.size + 2) (.agg #[.int .i64 k3, .string nm3, .int .i64 n3, .slice A3 m3 ac3]) t) := by
                  rw [HXA.out, HX.out]
                  exact hor.imp id fun ⟨h1, t, h2, h3⟩ => ⟨h1, t, h2, h3.base (by omega)⟩
                have HOR := Lib.hid hor2
                clear hr3 hg3 hor hor2 b0 b1 b2
                have d0 : w3.cell? ⟨w.heap.size + 1, 0, none⟩ = some (.int .i64 0) := HH3.out.zero.cell 0
                have d1 : w3.cell? ⟨w.heap.size + 1, 1, none⟩ = some (.string ⟨#[]⟩) := HH3.out.zero.cell 1
                have d2 : w3.cell? ⟨w.heap.size + 1, 2, none⟩ = some (.int .i64 0) := HH3.out.zero.cell 2
                have d3 : w3.cell? ⟨w.heap.size + 1, 3, none⟩ = some (.slice none 0 0) := HH3.out.zero.cell 3
                have f0 : w3.frozen? ⟨w.heap.size + 1, 0, none⟩ = false := HH3.out.zero.free 0
                have f1 : w3.frozen? ⟨w.heap.size + 1, 1, none⟩ = false := HH3.out.zero.free 1
                have f2 : w3.frozen? ⟨w.heap.size + 1, 2, none⟩ = false := HH3.out.zero.free 2
                have f3 : w3.frozen? ⟨w.heap.size + 1, 3, none⟩ = false := HH3.out.zero.free 3
                go_wp2
                exact bodyPost_ret (v := .tuple #[.agg #[.int .i64 k3, .string nm3, .int .i64 n3, .slice A3 m3 ac3], .bool ok3]) (by simp [results, Tryd.results115, go_sem, d0, d1, d2, d3]) rfl (HH3.out.pass HOR.out _ _ _ _)
              · have hq7 : ((s.extract j k1).toList == [97, 100, 100]) = false := by rw [ByteArray.toList_eq, beq_eq_false_iff_ne]; exact hu
                have HN7 := Lib.hid hu
                clear hu
                by_cases hu : (s.extract j k1).data.toList = [119, 114, 97, 112]
                · have hq10 : ((s.extract j k1).toList == [119, 114, 97, 112]) = true := by rw [ByteArray.toList_eq, hu]; simp
                  have HX := Lib.hid (show rdWordO (rdOi n) (s.extract j k1).data.toList (restOf s k1) = (match eat 32 (restOf s k1) with | none => none | some q => rdNm 10 q) by rw [rdWordO, if_neg HN1.out, if_neg HN4.out, if_neg HN5.out, if_neg HN8.out, if_neg HN9.out, if_neg HN6.out, if_neg HN7.out, if_pos hu]; cases eat 32 (restOf s k1) <;> rfl)
                  clear hu
                  cases hx : eat 32 (restOf s k1) with
                  | none =>
                    have HXN := Lib.hid hx
                    have HC := Lib.hid (accE_no ps pa k1 s ⟨#[32]⟩ w1 HH1.out.rd.rd ((eats_one 32 _).trans hx))
                    clear hx
                    go_wp2_with fail
                    refine HC.out.mono ?_
                    rintro e w3 ⟨rfl, hr2, hg2⟩
                    have HH3 := Lib.hid (HH1.out.read hr2 hg2)
                    clear hr2 hg2 b0 b1 b2
                    have b0 : w3.cell? ⟨w.heap.size, 0, none⟩ = some (rdAcc ps pa) := HH3.out.rdr.cell 0
                    have b1 : w3.cell? ⟨w.heap.size, 1, none⟩ = some (rdTak ps pa) := HH3.out.rdr.cell 1
                    have b2 : w3.cell? ⟨w.heap.size, 2, none⟩ = some (rdEnd ps pa) := HH3.out.rdr.cell 2
                    have HT := Lib.hid (takeRun_any 114 enters_name nameR wordC nameR_byte nameR_high pred_name ps pa k1 s w3 HH3.out.rd.rd hs)
                    go_wp2_with fail
                    refine HT.out.mono ?_
                    rintro e w4 ⟨k2, hk2, ⟨rfl, hr3, hg3⟩, hd3, ht3⟩
                    have HH4 := Lib.hid (HH3.out.read hr3 hg3)
                    have hwz : (s.extract k1 k2).size ≤ maxLen := by rw [ByteArray.size_extract]; unfold maxLen; omega
                    have HDW := Lib.hid (show rdNm 10 (restOf s k1) = some (.mk 10 0 (s.extract k1 k2) [], restOf s k2) by rw [rdNm, ht3, hd3])
                    clear hr3 hg3 hd3 ht3 b0 b1 b2
                    have HXF := Lib.hid (show rdWordO (rdOi n) ((restOf s j).takeWhile wordC) ((restOf s j).dropWhile wordC) = none by rw [HXA.out, HX.out, HXN.out])
                    have d0 : w4.cell? ⟨w.heap.size + 1, 0, none⟩ = some (.int .i64 0) := HH4.out.zero.cell 0
                    have d1 : w4.cell? ⟨w.heap.size + 1, 1, none⟩ = some (.string ⟨#[]⟩) := HH4.out.zero.cell 1
                    have d2 : w4.cell? ⟨w.heap.size + 1, 2, none⟩ = some (.int .i64 0) := HH4.out.zero.cell 2
                    have d3 : w4.cell? ⟨w.heap.size + 1, 3, none⟩ = some (.slice none 0 0) := HH4.out.zero.cell 3
                    have f0 : w4.frozen? ⟨w.heap.size + 1, 0, none⟩ = false := HH4.out.zero.free 0
                    have f1 : w4.frozen? ⟨w.heap.size + 1, 1, none⟩ = false := HH4.out.zero.free 1
                    have f2 : w4.frozen? ⟨w.heap.size + 1, 2, none⟩ = false := HH4.out.zero.free 2
                    have f3 : w4.frozen? ⟨w.heap.size + 1, 3, none⟩ = false := HH4.out.zero.free 3
                    go_wp2
                    exact bodyPost_ret (v := .tuple #[.agg #[.int .i64 10, .string (s.extract k1 k2), .int .i64 0, .slice none 0 0], .bool false]) (by simp [results, Tryd.results115, go_sem, d0, d1, d2, d3]) rfl (HH4.out.no HXF.out 10 0 _ none 0 0 _ _ _ _)
                  | some q1 =>
                    have hx1 := (eats_one 32 _).trans hx
                    obtain ⟨hle1, rfl⟩ := eats_rest (p := ⟨#[32]⟩) HH1.out.rd.rd.le hx1
                    have HXS := Lib.hid hx
                    have HC := Lib.hid (accE_yes ps pa k1 s ⟨#[32]⟩ _ w1 HH1.out.rd.rd hs hx1)
                    clear hx hx1
                    generalize k1 + (⟨#[32]⟩ : ByteArray).size = j2 at *
                    go_wp2_with fail
                    refine HC.out.mono ?_
                    rintro e w3 ⟨rfl, hr2, hg2⟩
                    have HH3 := Lib.hid (HH1.out.read hr2 hg2)
                    clear hr2 hg2 b0 b1 b2
                    have b0 : w3.cell? ⟨w.heap.size, 0, none⟩ = some (rdAcc ps pa) := HH3.out.rdr.cell 0
                    have b1 : w3.cell? ⟨w.heap.size, 1, none⟩ = some (rdTak ps pa) := HH3.out.rdr.cell 1
                    have b2 : w3.cell? ⟨w.heap.size, 2, none⟩ = some (rdEnd ps pa) := HH3.out.rdr.cell 2
                    have HT := Lib.hid (takeRun_any 114 enters_name nameR wordC nameR_byte nameR_high pred_name ps pa j2 s w3 HH3.out.rd.rd hs)
                    go_wp2_with fail
                    refine HT.out.mono ?_
                    rintro e w4 ⟨k2, hk2, ⟨rfl, hr3, hg3⟩, hd3, ht3⟩
                    have HH4 := Lib.hid (HH3.out.read hr3 hg3)
                    have hwz : (s.extract j2 k2).size ≤ maxLen := by rw [ByteArray.size_extract]; unfold maxLen; omega
                    have HDW := Lib.hid (show rdNm 10 (restOf s j2) = some (.mk 10 0 (s.extract j2 k2) [], restOf s k2) by rw [rdNm, ht3, hd3])
                    clear hr3 hg3 hd3 ht3 b0 b1 b2
                    have HXF := Lib.hid (show rdWordO (rdOi n) ((restOf s j).takeWhile wordC) ((restOf s j).dropWhile wordC) = some (.mk 10 0 (s.extract j2 k2) [], restOf s k2) by rw [HXA.out, HX.out, HXS.out]; exact HDW.out)
                    have d0 : w4.cell? ⟨w.heap.size + 1, 0, none⟩ = some (.int .i64 0) := HH4.out.zero.cell 0
                    have d1 : w4.cell? ⟨w.heap.size + 1, 1, none⟩ = some (.string ⟨#[]⟩) := HH4.out.zero.cell 1
                    have d2 : w4.cell? ⟨w.heap.size + 1, 2, none⟩ = some (.int .i64 0) := HH4.out.zero.cell 2
                    have d3 : w4.cell? ⟨w.heap.size + 1, 3, none⟩ = some (.slice none 0 0) := HH4.out.zero.cell 3
                    have f0 : w4.frozen? ⟨w.heap.size + 1, 0, none⟩ = false := HH4.out.zero.free 0
                    have f1 : w4.frozen? ⟨w.heap.size + 1, 1, none⟩ = false := HH4.out.zero.free 1
                    have f2 : w4.frozen? ⟨w.heap.size + 1, 2, none⟩ = false := HH4.out.zero.free 2
                    have f3 : w4.frozen? ⟨w.heap.size + 1, 3, none⟩ = false := HH4.out.zero.free 3
                    go_wp2
                    exact bodyPost_ret (v := .tuple #[.agg #[.int .i64 10, .string (s.extract j2 k2), .int .i64 0, .slice none 0 0], .bool true]) (by simp [results, Tryd.results115, go_sem, d0, d1, d2, d3]) rfl (HH4.out.yes HXF.out (OwnOt.leaf _ _ 10 0 _ hwz) _ _ _ _)
                · have hq10 : ((s.extract j k1).toList == [119, 114, 97, 112]) = false := by rw [ByteArray.toList_eq, beq_eq_false_iff_ne]; exact hu
                  have HN10 := Lib.hid hu
                  clear hu
                  by_cases hu : (s.extract j k1).data.toList = [109, 97, 112]
                  · have hq11 : ((s.extract j k1).toList == [109, 97, 112]) = true := by rw [ByteArray.toList_eq, hu]; simp
                    have HX := Lib.hid (show rdWordO (rdOi n) (s.extract j k1).data.toList (restOf s k1) = (match eat 32 (restOf s k1) with | none => none | some q => rdMapO (rdOi n) q) by rw [rdWordO, if_neg HN1.out, if_neg HN4.out, if_neg HN5.out, if_neg HN8.out, if_neg HN9.out, if_neg HN6.out, if_neg HN7.out, if_neg HN10.out, if_pos hu]; cases eat 32 (restOf s k1) <;> rfl)
                    clear hu
                    cases hx : eat 32 (restOf s k1) with
                    | none =>
                      have HXN := Lib.hid hx
                      have HC := Lib.hid (accE_no ps pa k1 s ⟨#[32]⟩ w1 HH1.out.rd.rd ((eats_one 32 _).trans hx))
                      clear hx
                      go_wp2_with fail
                      refine HC.out.mono ?_
                      rintro e w3 ⟨rfl, hr2, hg2⟩
                      have HH3 := Lib.hid (HH1.out.read hr2 hg2)
                      clear hr2 hg2 b0 b1 b2
                      have HXF := Lib.hid (show rdWordO (rdOi n) ((restOf s j).takeWhile wordC) ((restOf s j).dropWhile wordC) = none by rw [HXA.out, HX.out, HXN.out])
                      have d0 : w3.cell? ⟨w.heap.size + 1, 0, none⟩ = some (.int .i64 0) := HH3.out.zero.cell 0
                      have d1 : w3.cell? ⟨w.heap.size + 1, 1, none⟩ = some (.string ⟨#[]⟩) := HH3.out.zero.cell 1
                      have d2 : w3.cell? ⟨w.heap.size + 1, 2, none⟩ = some (.int .i64 0) := HH3.out.zero.cell 2
                      have d3 : w3.cell? ⟨w.heap.size + 1, 3, none⟩ = some (.slice none 0 0) := HH3.out.zero.cell 3
                      have f0 : w3.frozen? ⟨w.heap.size + 1, 0, none⟩ = false := HH3.out.zero.free 0
                      have f1 : w3.frozen? ⟨w.heap.size + 1, 1, none⟩ = false := HH3.out.zero.free 1
                      have f2 : w3.frozen? ⟨w.heap.size + 1, 2, none⟩ = false := HH3.out.zero.free 2
                      have f3 : w3.frozen? ⟨w.heap.size + 1, 3, none⟩ = false := HH3.out.zero.free 3
                      go_wp2
                      exact bodyPost_ret (v := .tuple #[.agg #[.int .i64 0, .string ⟨#[]⟩, .int .i64 0, .slice none 0 0], .bool false]) (by simp [results, Tryd.results115, go_sem, d0, d1, d2, d3]) rfl (HH3.out.no HXF.out 0 0 ⟨#[]⟩ none 0 0 _ _ _ _)
                    | some q1 =>
                      have hx1 := (eats_one 32 _).trans hx
                      obtain ⟨hle1, rfl⟩ := eats_rest (p := ⟨#[32]⟩) HH1.out.rd.rd.le hx1
                      have HXS := Lib.hid hx
                      have HC := Lib.hid (accE_yes ps pa k1 s ⟨#[32]⟩ _ w1 HH1.out.rd.rd hs hx1)
                      clear hx hx1
                      generalize k1 + (⟨#[32]⟩ : ByteArray).size = j2 at *
                      go_wp2_with fail
                      refine HC.out.mono ?_
                      rintro e w3 ⟨rfl, hr2, hg2⟩
                      have HH3 := Lib.hid (HH1.out.read hr2 hg2)
                      clear hr2 hg2 b0 b1 b2
                      have HRR := Lib.hid (HR.out B w3 ps pa j2 s HH3.out.rd hs)
                      have hz3 := HH3.out.zero.lt
                      have b0 : w3.cell? ⟨w.heap.size, 0, none⟩ = some (rdAcc ps pa) := HH3.out.rdr.cell 0
                      have b1 : w3.cell? ⟨w.heap.size, 1, none⟩ = some (rdTak ps pa) := HH3.out.rdr.cell 1
                      have b2 : w3.cell? ⟨w.heap.size, 2, none⟩ = some (rdEnd ps pa) := HH3.out.rdr.cell 2
                      go_wp2_with fail
                      refine HRR.out.mono ?_
                      rintro e w4 ⟨k4, nm4, n4, A4, m4, ac4, ok4, j4, rfl, hr4, hg4, hor⟩
                      have HH4 := HH3.out.read' hr4 hg4
                      have hs4 := hg4.size
                      obtain ⟨hb5, y5, hs5⟩ := boxes1 w4 50 #[.int .i64 k4, .string nm4, .int .i64 n4, .slice A4 m4 ac4]
                      have HH5 := Lib.hid (HH4.keep hb5)
                      have HOR := Lib.hid hor
                      have HY5 : Hid (Whole1 (w4.alloc (.cells #[.int .i64 k4, .string nm4, .int .i64 n4, .slice A4 m4 ac4] 50)) w4.heap.size 50 #[.int .i64 k4, .string nm4, .int .i64 n4, .slice A4 m4 ac4]) := Lib.hid y5
                      have HKE := Lib.hid hb5
                      have HS5 := Lib.hid hs5
                      clear hr4 hg4 hor HH4 hb5 y5 hs5 b0 b1 b2
                      go_upto_region 24 with fail
                      generalize hy4 : w4.heap.size = y4 at *
                      generalize w4.alloc (.cells #[.int .i64 k4, .string nm4, .int .i64 n4, .slice A4 m4 ac4] 50) = w5 at *
                      have y0 : w5.cell? ⟨y4, 0, none⟩ = some (.int .i64 k4) := HY5.out.cell 0
                      have y1 : w5.cell? ⟨y4, 1, none⟩ = some (.string nm4) := HY5.out.cell 1
                      have y2 : w5.cell? ⟨y4, 2, none⟩ = some (.int .i64 n4) := HY5.out.cell 2
                      have y3 : w5.cell? ⟨y4, 3, none⟩ = some (.slice A4 m4 ac4) := HY5.out.cell 3
                      have hb6 := (Below.refl w5.heap.size w5).alloc (Nat.le_refl _) (.cells #[.int .i64 k4, .string nm4, .int .i64 n4, .slice A4 m4 ac4] 50)
                      have HH6 := Lib.hid (HH5.out.keep hb6)
                      clear hb6
                      rcases HOR.out with ⟨rfl, hno⟩ | ⟨rfl, t, hyes, hO⟩
                      · have HXF := Lib.hid (show rdWordO (rdOi n) ((restOf s j).takeWhile wordC) ((restOf s j).dropWhile wordC) = none by rw [HXA.out, HX.out, HXS.out]; simp only [rdMapO, hno])
                        clear hno HOR
                        have d0 : (w5.alloc (.cells #[.int .i64 k4, .string nm4, .int .i64 n4, .slice A4 m4 ac4] 50)).cell? ⟨w.heap.size + 1, 0, none⟩ = some (.int .i64 0) := HH6.out.zero.cell 0
                        have d1 : (w5.alloc (.cells #[.int .i64 k4, .string nm4, .int .i64 n4, .slice A4 m4 ac4] 50)).cell? ⟨w.heap.size + 1, 1, none⟩ = some (.string ⟨#[]⟩) := HH6.out.zero.cell 1
                        have d2 : (w5.alloc (.cells #[.int .i64 k4, .string nm4, .int .i64 n4, .slice A4 m4 ac4] 50)).cell? ⟨w.heap.size + 1, 2, none⟩ = some (.int .i64 0) := HH6.out.zero.cell 2
                        have d3 : (w5.alloc (.cells #[.int .i64 k4, .string nm4, .int .i64 n4, .slice A4 m4 ac4] 50)).cell? ⟨w.heap.size + 1, 3, none⟩ = some (.slice none 0 0) := HH6.out.zero.cell 3
                        have f0 : (w5.alloc (.cells #[.int .i64 k4, .string nm4, .int .i64 n4, .slice A4 m4 ac4] 50)).frozen? ⟨w.heap.size + 1, 0, none⟩ = false := HH6.out.zero.free 0
                        have f1 : (w5.alloc (.cells #[.int .i64 k4, .string nm4, .int .i64 n4, .slice A4 m4 ac4] 50)).frozen? ⟨w.heap.size + 1, 1, none⟩ = false := HH6.out.zero.free 1
                        have f2 : (w5.alloc (.cells #[.int .i64 k4, .string nm4, .int .i64 n4, .slice A4 m4 ac4] 50)).frozen? ⟨w.heap.size + 1, 2, none⟩ = false := HH6.out.zero.free 2
                        have f3 : (w5.alloc (.cells #[.int .i64 k4, .string nm4, .int .i64 n4, .slice A4 m4 ac4] 50)).frozen? ⟨w.heap.size + 1, 3, none⟩ = false := HH6.out.zero.free 3
                        go_wp2
                        exact bodyPost_ret (v := .tuple #[.agg #[.int .i64 11, .string ⟨#[]⟩, .int .i64 0, .slice (some ⟨w5.heap.size, 0, none⟩) 1 1], .bool false]) (by simp [results, Tryd.results115, go_sem, d0, d1, d2, d3]) rfl (HH6.out.no HXF.out 11 0 ⟨#[]⟩ _ 1 1 _ _ _ _)
                      · have HXF := Lib.hid (show rdWordO (rdOi n) ((restOf s j).takeWhile wordC) ((restOf s j).dropWhile wordC) = some (.mk 11 0 ⟨#[]⟩ [t], restOf s j4) by rw [HXA.out, HX.out, HXS.out]; simp only [rdMapO, hyes])
                        have hI5 := hO.owned.keep (w' := w5) (fun g hg hl => HKE.out.block g (by have := (osp _ hg).2; omega))
                        have HO6 := Lib.hid (own_oone (w1 := w5) (base := w.heap.size + 2) 11 0 ⟨#[]⟩ (Nat.zero_le _) (by omega) (by have := HS5.out; omega) (by have := HS5.out; omega) hI5)
                        clear hyes hO hI5 HOR
                        have d0 : (w5.alloc (.cells #[.int .i64 k4, .string nm4, .int .i64 n4, .slice A4 m4 ac4] 50)).cell? ⟨w.heap.size + 1, 0, none⟩ = some (.int .i64 0) := HH6.out.zero.cell 0
                        have d1 : (w5.alloc (.cells #[.int .i64 k4, .string nm4, .int .i64 n4, .slice A4 m4 ac4] 50)).cell? ⟨w.heap.size + 1, 1, none⟩ = some (.string ⟨#[]⟩) := HH6.out.zero.cell 1
                        have d2 : (w5.alloc (.cells #[.int .i64 k4, .string nm4, .int .i64 n4, .slice A4 m4 ac4] 50)).cell? ⟨w.heap.size + 1, 2, none⟩ = some (.int .i64 0) := HH6.out.zero.cell 2
                        have d3 : (w5.alloc (.cells #[.int .i64 k4, .string nm4, .int .i64 n4, .slice A4 m4 ac4] 50)).cell? ⟨w.heap.size + 1, 3, none⟩ = some (.slice none 0 0) := HH6.out.zero.cell 3
                        have f0 : (w5.alloc (.cells #[.int .i64 k4, .string nm4, .int .i64 n4, .slice A4 m4 ac4] 50)).frozen? ⟨w.heap.size + 1, 0, none⟩ = false := HH6.out.zero.free 0
                        have f1 : (w5.alloc (.cells #[.int .i64 k4, .string nm4, .int .i64 n4, .slice A4 m4 ac4] 50)).frozen? ⟨w.heap.size + 1, 1, none⟩ = false := HH6.out.zero.free 1
                        have f2 : (w5.alloc (.cells #[.int .i64 k4, .string nm4, .int .i64 n4, .slice A4 m4 ac4] 50)).frozen? ⟨w.heap.size + 1, 2, none⟩ = false := HH6.out.zero.free 2
                        have f3 : (w5.alloc (.cells #[.int .i64 k4, .string nm4, .int .i64 n4, .slice A4 m4 ac4] 50)).frozen? ⟨w.heap.size + 1, 3, none⟩ = false := HH6.out.zero.free 3
                        go_wp2
                        exact bodyPost_ret (v := .tuple #[.agg #[.int .i64 11, .string ⟨#[]⟩, .int .i64 0, .slice (some ⟨w5.heap.size, 0, none⟩) 1 1], .bool true]) (by simp [results, Tryd.results115, go_sem, d0, d1, d2, d3]) rfl (HH6.out.yes HXF.out HO6.out _ _ _ _)
                  · have hq11 : ((s.extract j k1).toList == [109, 97, 112]) = false := by rw [ByteArray.toList_eq, beq_eq_false_iff_ne]; exact hu
                    have HN11 := Lib.hid hu
                    clear hu
                    have HX := Lib.hid (show rdWordO (rdOi n) (s.extract j k1).data.toList (restOf s k1) = none by rw [rdWordO, if_neg HN1.out, if_neg HN4.out, if_neg HN5.out, if_neg HN8.out, if_neg HN9.out, if_neg HN6.out, if_neg HN7.out, if_neg HN10.out, if_neg HN11.out])
                    have d0 : w1.cell? ⟨w.heap.size + 1, 0, none⟩ = some (.int .i64 0) := HH1.out.zero.cell 0
                    have d1 : w1.cell? ⟨w.heap.size + 1, 1, none⟩ = some (.string ⟨#[]⟩) := HH1.out.zero.cell 1
                    have d2 : w1.cell? ⟨w.heap.size + 1, 2, none⟩ = some (.int .i64 0) := HH1.out.zero.cell 2
                    have d3 : w1.cell? ⟨w.heap.size + 1, 3, none⟩ = some (.slice none 0 0) := HH1.out.zero.cell 3
                    have f0 : w1.frozen? ⟨w.heap.size + 1, 0, none⟩ = false := HH1.out.zero.free 0
                    have f1 : w1.frozen? ⟨w.heap.size + 1, 1, none⟩ = false := HH1.out.zero.free 1
                    have f2 : w1.frozen? ⟨w.heap.size + 1, 2, none⟩ = false := HH1.out.zero.free 2
                    have f3 : w1.frozen? ⟨w.heap.size + 1, 3, none⟩ = false := HH1.out.zero.free 3
                    go_wp2
                    exact bodyPost_ret (v := .tuple #[.agg #[.int .i64 0, .string ⟨#[]⟩, .int .i64 0, .slice none 0 0], .bool false]) (by simp [results, Tryd.results115, go_sem, d0, d1, d2, d3]) rfl (HH1.out.no (HXA.out.trans HX.out) 0 0 ⟨#[]⟩ none 0 0 _ _ _ _)

end Go.Proofs.YtlmbnefoobameaaDoor.OI
end

section
namespace Go.Proofs.YtlmbnefoobameaaDoor.OI
open Go Go.RowKit
attribute [local go_sem ↓] Go.wp_at_zero Go.wp_at_succ

set_option maxHeartbeats 4000000 in
theorem readR_zero : ReadR 0 0 := by
  intro B w ps pa j s hr hs
  have HH0 := Lib.hid (Hold.start hr)
  clear hr
  go_enter Tryd.func64, Tryd.ntmps64
  go_upto_region 1 with fail
  generalize (w.alloc (.cells #[rdAcc ps pa, rdTak ps pa, rdEnd ps pa] 87)).alloc (.cells #[.int .i64 0, .string ⟨#[]⟩, .int .i64 0, .slice none 0 0] 50) = wa at *
  have d0 : wa.cell? ⟨w.heap.size + 1, 0, none⟩ = some (.int .i64 0) := HH0.out.zero.cell 0
  have d1 : wa.cell? ⟨w.heap.size + 1, 1, none⟩ = some (.string ⟨#[]⟩) := HH0.out.zero.cell 1
  have d2 : wa.cell? ⟨w.heap.size + 1, 2, none⟩ = some (.int .i64 0) := HH0.out.zero.cell 2
  have d3 : wa.cell? ⟨w.heap.size + 1, 3, none⟩ = some (.slice none 0 0) := HH0.out.zero.cell 3
  have f0 : wa.frozen? ⟨w.heap.size + 1, 0, none⟩ = false := HH0.out.zero.free 0
  have f1 : wa.frozen? ⟨w.heap.size + 1, 1, none⟩ = false := HH0.out.zero.free 1
  have f2 : wa.frozen? ⟨w.heap.size + 1, 2, none⟩ = false := HH0.out.zero.free 2
  have f3 : wa.frozen? ⟨w.heap.size + 1, 3, none⟩ = false := HH0.out.zero.free 3
  go_wp2
  exact bodyPost_ret (v := .tuple #[.agg #[.int .i64 0, .string ⟨#[]⟩, .int .i64 0, .slice none 0 0], .bool false]) (by simp [results, Tryd.results64, go_sem, d0, d1, d2, d3]) rfl (HH0.out.no rfl 0 0 ⟨#[]⟩ none 0 0 _ _ _ _)

set_option maxHeartbeats 16000000 in
set_option maxRecDepth 100000 in
theorem readR_succ (n : Nat) (d d' : Int) (hd0 : (d == 0) = false) (hd : IntKind.i64.wrap (d - 1) = d') (H : ReadR n d') : ReadR (n + 1) d := by
  intro B w ps pa j s hr hs
  have HH0 := Lib.hid (Hold.start hr)
  have HPR := Lib.hid (readPair_any n d d' hd H)
  have HWR := Lib.hid (readWord_any n d d' hd H)
  clear hr H
  go_enter Tryd.func64, Tryd.ntmps64
  go_upto_region 1 with fail
  generalize (w.alloc (.cells #[rdAcc ps pa, rdTak ps pa, rdEnd ps pa] 87)).alloc (.cells #[.int .i64 0, .string ⟨#[]⟩, .int .i64 0, .slice none 0 0] 50) = wa at *
  have b0 : wa.cell? ⟨w.heap.size, 0, none⟩ = some (rdAcc ps pa) := HH0.out.rdr.cell 0
  have b1 : wa.cell? ⟨w.heap.size, 1, none⟩ = some (rdTak ps pa) := HH0.out.rdr.cell 1
  have b2 : wa.cell? ⟨w.heap.size, 2, none⟩ = some (rdEnd ps pa) := HH0.out.rdr.cell 2
  cases hx : eat 40 (restOf s j) with
  | some q1 =>
    have hx1 := (eats_one 40 _).trans hx
    obtain ⟨hle1, rfl⟩ := eats_rest (p := ⟨#[40]⟩) HH0.out.rd.rd.le hx1
    have HXS := Lib.hid hx
    have HC := Lib.hid (accE_yes ps pa j s ⟨#[40]⟩ _ wa HH0.out.rd.rd hs hx1)
    clear hx hx1
    generalize j + (⟨#[40]⟩ : ByteArray).size = j2 at *
    go_wp2_with fail
    refine HC.out.mono ?_
    rintro e w2 ⟨rfl, hr2, hg2⟩
    have HH2 := Lib.hid (HH0.out.read hr2 hg2)
    clear hr2 hg2 b0 b1 b2
    have HX := Lib.hid (show rdOi (n + 1) (restOf s j) = rdTwo (rdOi n) (restOf s j2) by simp only [rdOi, HXS.out])
    have HP := Lib.hid (HPR.out B w2 ps pa j2 s HH2.out.rd hs)
    have hz2 := HH2.out.zero.lt
    have b0 : w2.cell? ⟨w.heap.size, 0, none⟩ = some (rdAcc ps pa) := HH2.out.rdr.cell 0
    have b1 : w2.cell? ⟨w.heap.size, 1, none⟩ = some (rdTak ps pa) := HH2.out.rdr.cell 1
    have b2 : w2.cell? ⟨w.heap.size, 2, none⟩ = some (rdEnd ps pa) := HH2.out.rdr.cell 2
    go_wp2_with fail
    refine HP.out.mono ?_
    rintro e w3 ⟨k3, nm3, n3, A3, m3, ac3, ok3, j3, rfl, hr3, hg3, hor⟩
    have HH3 := Lib.hid (HH2.out.read' hr3 hg3)
    have hor2 : (ok3 = false ∧ rdOi (n + 1) (restOf s j) = none) ∨ (ok3 = true ∧ ∃ t, rdOi (n + 1) (restOf s j) = some (t, restOf s j3) ∧ OwnOt w3 (w.heap.size + 2) (.agg #[.int .i64 k3, .string nm3, .int .i64 n3, .slice A3 m3 ac3]) t) := by
      rw [HX.out]
      exact hor.imp id fun ⟨h1, t, h2, h3⟩ => ⟨h1, t, h2, h3.base (by omega)⟩
    have HOR := Lib.hid hor2
    clear hr3 hg3 hor hor2 b0 b1 b2
    have d0 : w3.cell? ⟨w.heap.size + 1, 0, none⟩ = some (.int .i64 0) := HH3.out.zero.cell 0
    have d1 : w3.cell? ⟨w.heap.size + 1, 1, none⟩ = some (.string ⟨#[]⟩) := HH3.out.zero.cell 1
    have d2 : w3.cell? ⟨w.heap.size + 1, 2, none⟩ = some (.int .i64 0) := HH3.out.zero.cell 2
    have d3 : w3.cell? ⟨w.heap.size + 1, 3, none⟩ = some (.slice none 0 0) := HH3.out.zero.cell 3
    have f0 : w3.frozen? ⟨w.heap.size + 1, 0, none⟩ = false := HH3.out.zero.free 0
    have f1 : w3.frozen? ⟨w.heap.size + 1, 1, none⟩ = false := HH3.out.zero.free 1
    have f2 : w3.frozen? ⟨w.heap.size + 1, 2, none⟩ = false := HH3.out.zero.free 2
    have f3 : w3.frozen? ⟨w.heap.size + 1, 3, none⟩ = false := HH3.out.zero.free 3
    go_wp2
    exact bodyPost_ret (v := .tuple #[.agg #[.int .i64 k3, .string nm3, .int .i64 n3, .slice A3 m3 ac3], .bool ok3]) (by simp [results, Tryd.results64, go_sem, d0, d1, d2, d3]) rfl (HH3.out.pass HOR.out _ _ _ _)
  | none =>
    have E40 := Lib.hid hx
    have HC := Lib.hid (accE_no ps pa j s ⟨#[40]⟩ wa HH0.out.rd.rd ((eats_one 40 _).trans hx))
    clear hx
    go_wp2_with fail
    refine HC.out.mono ?_
    rintro e w40 ⟨rfl, hr2, hg2⟩
    have HH40 := Lib.hid (HH0.out.read hr2 hg2)
    clear hr2 hg2 b0 b1 b2
    have b0 : w40.cell? ⟨w.heap.size, 0, none⟩ = some (rdAcc ps pa) := HH40.out.rdr.cell 0
    have b1 : w40.cell? ⟨w.heap.size, 1, none⟩ = some (rdTak ps pa) := HH40.out.rdr.cell 1
    have b2 : w40.cell? ⟨w.heap.size, 2, none⟩ = some (rdEnd ps pa) := HH40.out.rdr.cell 2
    cases hx : eat 46 (restOf s j) with
    | some q1 =>
      have hx1 := (eats_one 46 _).trans hx
      obtain ⟨hle1, rfl⟩ := eats_rest (p := ⟨#[46]⟩) HH40.out.rd.rd.le hx1
      have HXS := Lib.hid hx
      have HC := Lib.hid (accE_yes ps pa j s ⟨#[46]⟩ _ w40 HH40.out.rd.rd hs hx1)
      clear hx hx1
      generalize j + (⟨#[46]⟩ : ByteArray).size = j2 at *
      go_wp2_with fail
      refine HC.out.mono ?_
      rintro e w2 ⟨rfl, hr2, hg2⟩
      have HH2 := Lib.hid (HH40.out.read hr2 hg2)
      clear hr2 hg2 b0 b1 b2
      have b0 : w2.cell? ⟨w.heap.size, 0, none⟩ = some (rdAcc ps pa) := HH2.out.rdr.cell 0
      have b1 : w2.cell? ⟨w.heap.size, 1, none⟩ = some (rdTak ps pa) := HH2.out.rdr.cell 1
      have b2 : w2.cell? ⟨w.heap.size, 2, none⟩ = some (rdEnd ps pa) := HH2.out.rdr.cell 2
      have HT := Lib.hid (takeRun_any 114 enters_name nameR wordC nameR_byte nameR_high pred_name ps pa j2 s w2 HH2.out.rd.rd hs)
      go_wp2_with fail
      refine HT.out.mono ?_
      rintro e w3 ⟨k2, hk2, ⟨rfl, hr3, hg3⟩, hd3, ht3⟩
      have HH3 := Lib.hid (HH2.out.read hr3 hg3)
      have hwz : (s.extract j2 k2).size ≤ maxLen := by rw [ByteArray.size_extract]; unfold maxLen; omega
      have HX := Lib.hid (show rdOi (n + 1) (restOf s j) = some (.mk 2 0 (s.extract j2 k2) [], restOf s k2) by simp only [rdOi, E40.out, HXS.out, rdNm, ht3, hd3])
      clear hr3 hg3 hd3 ht3 b0 b1 b2
      have d0 : w3.cell? ⟨w.heap.size + 1, 0, none⟩ = some (.int .i64 0) := HH3.out.zero.cell 0
      have d1 : w3.cell? ⟨w.heap.size + 1, 1, none⟩ = some (.string ⟨#[]⟩) := HH3.out.zero.cell 1
      have d2 : w3.cell? ⟨w.heap.size + 1, 2, none⟩ = some (.int .i64 0) := HH3.out.zero.cell 2
      have d3 : w3.cell? ⟨w.heap.size + 1, 3, none⟩ = some (.slice none 0 0) := HH3.out.zero.cell 3
      have f0 : w3.frozen? ⟨w.heap.size + 1, 0, none⟩ = false := HH3.out.zero.free 0
      have f1 : w3.frozen? ⟨w.heap.size + 1, 1, none⟩ = false := HH3.out.zero.free 1
      have f2 : w3.frozen? ⟨w.heap.size + 1, 2, none⟩ = false := HH3.out.zero.free 2
      have f3 : w3.frozen? ⟨w.heap.size + 1, 3, none⟩ = false := HH3.out.zero.free 3
      go_wp2
      exact bodyPost_ret (v := .tuple #[.agg #[.int .i64 2, .string (s.extract j2 k2), .int .i64 0, .slice none 0 0], .bool true]) (by simp [results, Tryd.results64, go_sem, d0, d1, d2, d3]) rfl (HH3.out.yes HX.out (OwnOt.leaf _ _ 2 0 _ hwz) _ _ _ _)
    | none =>
      have E46 := Lib.hid hx
      have HC := Lib.hid (accE_no ps pa j s ⟨#[46]⟩ w40 HH40.out.rd.rd ((eats_one 46 _).trans hx))
      clear hx
      go_wp2_with fail
      refine HC.out.mono ?_
      rintro e w46 ⟨rfl, hr2, hg2⟩
      have HH46 := Lib.hid (HH40.out.read hr2 hg2)
      clear hr2 hg2 b0 b1 b2
      have b0 : w46.cell? ⟨w.heap.size, 0, none⟩ = some (rdAcc ps pa) := HH46.out.rdr.cell 0
      have b1 : w46.cell? ⟨w.heap.size, 1, none⟩ = some (rdTak ps pa) := HH46.out.rdr.cell 1
      have b2 : w46.cell? ⟨w.heap.size, 2, none⟩ = some (rdEnd ps pa) := HH46.out.rdr.cell 2
      cases hx : eat 63 (restOf s j) with
      | some q1 =>
        have hx1 := (eats_one 63 _).trans hx
        obtain ⟨hle1, rfl⟩ := eats_rest (p := ⟨#[63]⟩) HH46.out.rd.rd.le hx1
        have HXS := Lib.hid hx
        have HC := Lib.hid (accE_yes ps pa j s ⟨#[63]⟩ _ w46 HH46.out.rd.rd hs hx1)
        clear hx hx1
        generalize j + (⟨#[63]⟩ : ByteArray).size = j2 at *
        go_wp2_with fail
        refine HC.out.mono ?_
        rintro e w2 ⟨rfl, hr2, hg2⟩
        have HH2 := Lib.hid (HH46.out.read hr2 hg2)
        clear hr2 hg2 b0 b1 b2
        have b0 : w2.cell? ⟨w.heap.size, 0, none⟩ = some (rdAcc ps pa) := HH2.out.rdr.cell 0
        have b1 : w2.cell? ⟨w.heap.size, 1, none⟩ = some (rdTak ps pa) := HH2.out.rdr.cell 1
        have b2 : w2.cell? ⟨w.heap.size, 2, none⟩ = some (rdEnd ps pa) := HH2.out.rdr.cell 2
        have HT := Lib.hid (takeRun_any 114 enters_name nameR wordC nameR_byte nameR_high pred_name ps pa j2 s w2 HH2.out.rd.rd hs)
        go_wp2_with fail
        refine HT.out.mono ?_
        rintro e w3 ⟨k2, hk2, ⟨rfl, hr3, hg3⟩, hd3, ht3⟩
        have HH3 := Lib.hid (HH2.out.read hr3 hg3)
        have hwz : (s.extract j2 k2).size ≤ maxLen := by rw [ByteArray.size_extract]; unfold maxLen; omega
        have HX := Lib.hid (show rdOi (n + 1) (restOf s j) = some (.mk 3 0 (s.extract j2 k2) [], restOf s k2) by simp only [rdOi, E40.out, E46.out, HXS.out, rdNm, ht3, hd3])
        clear hr3 hg3 hd3 ht3 b0 b1 b2
        have d0 : w3.cell? ⟨w.heap.size + 1, 0, none⟩ = some (.int .i64 0) := HH3.out.zero.cell 0
        have d1 : w3.cell? ⟨w.heap.size + 1, 1, none⟩ = some (.string ⟨#[]⟩) := HH3.out.zero.cell 1
        have d2 : w3.cell? ⟨w.heap.size + 1, 2, none⟩ = some (.int .i64 0) := HH3.out.zero.cell 2
        have d3 : w3.cell? ⟨w.heap.size + 1, 3, none⟩ = some (.slice none 0 0) := HH3.out.zero.cell 3
        have f0 : w3.frozen? ⟨w.heap.size + 1, 0, none⟩ = false := HH3.out.zero.free 0
        have f1 : w3.frozen? ⟨w.heap.size + 1, 1, none⟩ = false := HH3.out.zero.free 1
        have f2 : w3.frozen? ⟨w.heap.size + 1, 2, none⟩ = false := HH3.out.zero.free 2
        have f3 : w3.frozen? ⟨w.heap.size + 1, 3, none⟩ = false := HH3.out.zero.free 3
        go_wp2
        exact bodyPost_ret (v := .tuple #[.agg #[.int .i64 3, .string (s.extract j2 k2), .int .i64 0, .slice none 0 0], .bool true]) (by simp [results, Tryd.results64, go_sem, d0, d1, d2, d3]) rfl (HH3.out.yes HX.out (OwnOt.leaf _ _ 3 0 _ hwz) _ _ _ _)
      | none =>
        have E63 := Lib.hid hx
        have HC := Lib.hid (accE_no ps pa j s ⟨#[63]⟩ w46 HH46.out.rd.rd ((eats_one 63 _).trans hx))
        clear hx
        go_wp2_with fail
        refine HC.out.mono ?_
        rintro e w63 ⟨rfl, hr2, hg2⟩
        have HH63 := Lib.hid (HH46.out.read hr2 hg2)
        clear hr2 hg2 b0 b1 b2
        have HX := Lib.hid (show rdOi (n + 1) (restOf s j) = rdWordO (rdOi n) ((restOf s j).takeWhile wordC) ((restOf s j).dropWhile wordC) by simp only [rdOi, E40.out, E46.out, E63.out])
        have HW := Lib.hid (HWR.out B w63 ps pa j s HH63.out.rd hs)
        have hz63 := HH63.out.zero.lt
        have b0 : w63.cell? ⟨w.heap.size, 0, none⟩ = some (rdAcc ps pa) := HH63.out.rdr.cell 0
        have b1 : w63.cell? ⟨w.heap.size, 1, none⟩ = some (rdTak ps pa) := HH63.out.rdr.cell 1
        have b2 : w63.cell? ⟨w.heap.size, 2, none⟩ = some (rdEnd ps pa) := HH63.out.rdr.cell 2
        go_wp2_with fail
        refine HW.out.mono ?_
        rintro e w3 ⟨k3, nm3, n3, A3, m3, ac3, ok3, j3, rfl, hr3, hg3, hor⟩
        have HH3 := Lib.hid (HH63.out.read' hr3 hg3)
        have hor2 : (ok3 = false ∧ rdOi (n + 1) (restOf s j) = none) ∨ (ok3 = true ∧ ∃ t, rdOi (n + 1) (restOf s j) = some (t, restOf s j3) ∧ OwnOt w3 (w.heap.size + 2) (.agg #[.int .i64 k3, .string nm3, .int .i64 n3, .slice A3 m3 ac3]) t) := by
          rw [HX.out]
          exact hor.imp id fun ⟨h1, t, h2, h3⟩ => ⟨h1, t, h2, h3.base (by omega)⟩
        have HOR := Lib.hid hor2
        clear hr3 hg3 hor hor2 b0 b1 b2
        have d0 : w3.cell? ⟨w.heap.size + 1, 0, none⟩ = some (.int .i64 0) := HH3.out.zero.cell 0
        have d1 : w3.cell? ⟨w.heap.size + 1, 1, none⟩ = some (.string ⟨#[]⟩) := HH3.out.zero.cell 1
        have d2 : w3.cell? ⟨w.heap.size + 1, 2, none⟩ = some (.int .i64 0) := HH3.out.zero.cell 2
        have d3 : w3.cell? ⟨w.heap.size + 1, 3, none⟩ = some (.slice none 0 0) := HH3.out.zero.cell 3
        have f0 : w3.frozen? ⟨w.heap.size + 1, 0, none⟩ = false := HH3.out.zero.free 0
        have f1 : w3.frozen? ⟨w.heap.size + 1, 1, none⟩ = false := HH3.out.zero.free 1
        have f2 : w3.frozen? ⟨w.heap.size + 1, 2, none⟩ = false := HH3.out.zero.free 2
        have f3 : w3.frozen? ⟨w.heap.size + 1, 3, none⟩ = false := HH3.out.zero.free 3
        go_wp2
        exact bodyPost_ret (v := .tuple #[.agg #[.int .i64 k3, .string nm3, .int .i64 n3, .slice A3 m3 ac3], .bool ok3]) (by simp [results, Tryd.results64, go_sem, d0, d1, d2, d3]) rfl (HH3.out.pass HOR.out _ _ _ _)
theorem readR_all : ∀ (n : Nat), n ≤ 10 → ReadR n (n : Int)
  | 0, _ => readR_zero
  | n + 1, hn => readR_succ n _ (n : Int) (by rw [beq_eq_false_iff_ne]; omega) (by rw [IntKind.wrap_i64]; omega) (readR_all n (by omega))

end Go.Proofs.YtlmbnefoobameaaDoor.OI
end

section
namespace Go.Proofs.YtlmbnefoobameaaDoor
set_option maxRecDepth 100000
open Go.RowKit

theorem run_store_func {P : Program} {w : World} {a : Addr} {m : Mode} (f : Fn) (fr bs : Array Value) : (store a (.func f fr bs) m).run P w = stored P w a (.func f fr bs) m := run_store P w a _ m rfl
theorem run_store_nilFunc {P : Program} {w : World} {a : Addr} {m : Mode} : (store a .nilFunc m).run P w = stored P w a .nilFunc m := run_store P w a _ m rfl
attribute [local go_sem] run_store_func run_store_nilFunc

/-- The table of forms, as cells. -/
def formTab : Array Value := #[.int .i64 0, .nilFunc, .int .i64 0, .func (.func 150) #[] #[], .int .i64 0, .func (.func 151) #[] #[], .int .i64 0, .func (.func 151) #[] #[], .int .i64 0, .func (.func 150) #[] #[], .int .i64 0, .func (.func 150) #[] #[], .int .i64 0, .func (.func 152) #[] #[], .int .i64 0, .func (.func 153) #[] #[], .int .i64 0, .func (.func 150) #[] #[], .int .i64 0, .func (.func 150) #[] #[], .int .i64 0, .func (.func 151) #[] #[], .int .i64 1, .func (.func 150) #[] #[], .int .i64 2, .func (.func 150) #[] #[], .int .i64 2, .func (.func 150) #[] #[]]
theorem infoTab : (Tryd.prog.info? 191).map (·.size) = some formTab.size := by kernel_rfl
theorem allTab : formTab.all (·.oneCell') = true := by kernel_rfl
theorem sizeTab : formTab.size = 28 := by kernel_rfl
theorem Below.setCells {B : Nat} {a : World} {b : Nat} (hB : B ≤ b) : ∀ (vs : List Value) (o : Nat) (w : World), Below B a w → Below B a (w.setCells b o vs)
  | [], _, _, h => h
  | v :: r, o, _, h => Below.setCells hB r (o + 1) _ (h.setCell (p := ⟨b, o, none⟩) hB v)
/-- The function that a kind's name and number must pass. -/
def fitFn (k : Int) : Nat := if k = 2 ∨ k = 3 ∨ k = 10 then 151 else if k = 6 then 152 else if k = 7 then 153 else 150

/-- A row made last, laid over as a whole. -/
theorem laidOver (w : World) (t1 t2 : TypeId) (a b c : Array Value) (h : b.size = c.size) : ∃ wx : World, ((w.alloc (.cells a t1)).alloc (.cells b t2)).there (w.heap.size + 1) 0 c.size ∧ ((w.alloc (.cells a t1)).alloc (.cells b t2)).setCells (w.heap.size + 1) 0 c.toList = wx ∧
    (∀ j, wx.cell? ⟨w.heap.size + 1, j, none⟩ = c[j]?) ∧ (∀ j, wx.cell? ⟨w.heap.size, j, none⟩ = a[j]?) ∧ (∀ j, wx.frozen? ⟨w.heap.size, j, none⟩ = false) ∧ Below w.heap.size w wx := by
  obtain ⟨hb, p0, q0, hs⟩ := boxes2 w t1 t2 a b
  have ht : ((w.alloc (.cells a t1)).alloc (.cells b t2)).there (w.heap.size + 1) 0 c.size := fun j hj => ⟨by
    rw [Nat.zero_add, q0.cell j, Array.getElem?_eq_getElem (by omega), Option.isSome_some], by rw [Nat.zero_add]; exact q0.free j⟩
  refine ⟨_, ht, rfl, fun j => ?_, fun j => ?_, fun j => ?_, Below.setCells (by omega) _ _ _ hb⟩
  · by_cases hj : j < c.size
    · have := World.cell?_setCells_in (w.heap.size + 1) c.toList 0 _ (fun i hi => (ht i (by simpa using hi)).1) j (by simpa using hj)
      rw [Nat.zero_add] at this
      rw [this, Array.getElem?_eq_getElem hj, Array.getElem_toList]
    · rw [World.cell?_setCells_out _ _ _ _ _ (fun _ _ => Or.inr (by simp; omega)), q0.cell j, Array.getElem?_eq_none (by omega), Array.getElem?_eq_none (by omega)]
  · rw [World.cell?_setCells_out _ _ _ _ _ (fun h => absurd h (by simp))]
    exact p0.cell j
  · rw [World.frozen?_setCells]
    exact p0.free j

set_option maxHeartbeats 16000000 in
theorem opticForm_yes (k : Int) (h1 : 1 ≤ k) (h2 : k ≤ 13) (w : World) : Calls Tryd.prog 144 #[.int .i64 k] w fun e w' => e = .returned (.tuple #[.agg #[.int .i64 (arityI k), .func (.func (fitFn k)) #[] #[]], .bool true]) ∧ Below w.heap.size w w' := by
  obtain ⟨wx, ht, he, hW, hO, hF, hB⟩ := laidOver w 178 191 #[.int .i64 0, .nilFunc] #[.int .i64 0, .nilFunc, .int .i64 0, .nilFunc, .int .i64 0, .nilFunc, .int .i64 0, .nilFunc, .int .i64 0, .nilFunc, .int .i64 0, .nilFunc, .int .i64 0, .nilFunc, .int .i64 0, .nilFunc, .int .i64 0, .nilFunc, .int .i64 0, .nilFunc, .int .i64 0, .nilFunc, .int .i64 0, .nilFunc, .int .i64 0, .nilFunc, .int .i64 0, .nilFunc] formTab (by rw [sizeTab]; rfl)
  have HT := Lib.hid ht
  have HE := Lib.hid he
  have HW := Lib.hid hW
  have HB := Lib.hid hB
  have c0 : wx.cell? ⟨w.heap.size, 0, none⟩ = some (.int .i64 0) := hO 0
  have c1 : wx.cell? ⟨w.heap.size, 1, none⟩ = some .nilFunc := hO 1
  have f0 := hF 0
  have f1 := hF 1
  clear ht he hW hO hF hB
  go_enter Tryd.func144, Tryd.ntmps144
  go_upto_region 3 with fail
  iterate 46 go_step
  refine wpList_store_mid rfl 191 (.tmp 4) (.tmp 25) rfl (w.heap.size + 1) 0 formTab rfl rfl HT.out infoTab allTab ?_
  rw [HE.out]
  have HW' := HW.out
  have hk : k = 1 ∨ k = 2 ∨ k = 3 ∨ k = 4 ∨ k = 5 ∨ k = 6 ∨ k = 7 ∨ k = 8 ∨ k = 9 ∨ k = 10 ∨ k = 11 ∨ k = 12 ∨ k = 13 := by omega
  clear h1 h2 HT HE HW
  rcases hk with rfl | rfl | rfl | rfl | rfl | rfl | rfl | rfl | rfl | rfl | rfl | rfl | rfl
  · have d0 : wx.cell? ⟨w.heap.size + 1, 2, none⟩ = some (.int .i64 0) := HW' 2
    have d1 : wx.cell? ⟨w.heap.size + 1, 3, none⟩ = some (.func (.func 150) #[] #[]) := HW' 3
    clear HW'
    go_wp2
    refine bodyPost_ret (v := .tuple #[.agg #[.int .i64 0, .func (.func 150) #[] #[]], .bool true]) (by simp [results, Tryd.results144, go_sem, c0, c1]) rfl ⟨rfl, (HB.out.setCell (by simp) _).setCell (by simp) _⟩
  · have d0 : wx.cell? ⟨w.heap.size + 1, 4, none⟩ = some (.int .i64 0) := HW' 4
    have d1 : wx.cell? ⟨w.heap.size + 1, 5, none⟩ = some (.func (.func 151) #[] #[]) := HW' 5
    clear HW'
    go_wp2
    refine bodyPost_ret (v := .tuple #[.agg #[.int .i64 0, .func (.func 151) #[] #[]], .bool true]) (by simp [results, Tryd.results144, go_sem, c0, c1]) rfl ⟨rfl, (HB.out.setCell (by simp) _).setCell (by simp) _⟩
  · have d0 : wx.cell? ⟨w.heap.size + 1, 6, none⟩ = some (.int .i64 0) := HW' 6
    have d1 : wx.cell? ⟨w.heap.size + 1, 7, none⟩ = some (.func (.func 151) #[] #[]) := HW' 7
    clear HW'
    go_wp2
    refine bodyPost_ret (v := .tuple #[.agg #[.int .i64 0, .func (.func 151) #[] #[]], .bool true]) (by simp [results, Tryd.results144, go_sem, c0, c1]) rfl ⟨rfl, (HB.out.setCell (by simp) _).setCell (by simp) _⟩
  · have d0 : wx.cell? ⟨w.heap.size + 1, 8, none⟩ = some (.int .i64 0) := HW' 8
    have d1 : wx.cell? ⟨w.heap.size + 1, 9, none⟩ = some (.func (.func 150) #[] #[]) := HW' 9
    clear HW'
    go_wp2
    refine bodyPost_ret (v := .tuple #[.agg #[.int .i64 0, .func (.func 150) #[] #[]], .bool true]) (by simp [results, Tryd.results144, go_sem, c0, c1]) rfl ⟨rfl, (HB.out.setCell (by simp) _).setCell (by simp) _⟩
  · have d0 : wx.cell? ⟨w.heap.size + 1, 10, none⟩ = some (.int .i64 0) := HW' 10
    have d1 : wx.cell? ⟨w.heap.size + 1, 11, none⟩ = some (.func (.func 150) #[] #[]) := HW' 11
    clear HW'
    go_wp2
    refine bodyPost_ret (v := .tuple #[.agg #[.int .i64 0, .func (.func 150) #[] #[]], .bool true]) (by simp [results, Tryd.results144, go_sem, c0, c1]) rfl ⟨rfl, (HB.out.setCell (by simp) _).setCell (by simp) _⟩
  · have d0 : wx.cell? ⟨w.heap.size + 1, 12, none⟩ = some (.int .i64 0) := HW' 12
    have d1 : wx.cell? ⟨w.heap.size + 1, 13, none⟩ = some (.func (.func 152) #[] #[]) := HW' 13
    clear HW'
    go_wp2
    refine bodyPost_ret (v := .tuple #[.agg #[.int .i64 0, .func (.func 152) #[] #[]], .bool true]) (by simp [results, Tryd.results144, go_sem, c0, c1]) rfl ⟨rfl, (HB.out.setCell (by simp) _).setCell (by simp) _⟩
  · have d0 : wx.cell? ⟨w.heap.size + 1, 14, none⟩ = some (.int .i64 0) := HW' 14
    have d1 : wx.cell? ⟨w.heap.size + 1, 15, none⟩ = some (.func (.func 153) #[] #[]) := HW' 15
    clear HW'
    go_wp2
    refine bodyPost_ret (v := .tuple #[.agg #[.int .i64 0, .func (.func 153) #[] #[]], .bool true]) (by simp [results, Tryd.results144, go_sem, c0, c1]) rfl ⟨rfl, (HB.out.setCell (by simp) _).setCell (by simp) _⟩
  · have d0 : wx.cell? ⟨w.heap.size + 1, 16, none⟩ = some (.int .i64 0) := HW' 16
    have d1 : wx.cell? ⟨w.heap.size + 1, 17, none⟩ = some (.func (.func 150) #[] #[]) := HW' 17
    clear HW'
    go_wp2
    refine bodyPost_ret (v := .tuple #[.agg #[.int .i64 0, .func (.func 150) #[] #[]], .bool true]) (by simp [results, Tryd.results144, go_sem, c0, c1]) rfl ⟨rfl, (HB.out.setCell (by simp) _).setCell (by simp) _⟩
  · have d0 : wx.cell? ⟨w.heap.size + 1, 18, none⟩ = some (.int .i64 0) := HW' 18
    have d1 : wx.cell? ⟨w.heap.size + 1, 19, none⟩ = some (.func (.func 150) #[] #[]) := HW' 19
    clear HW'
    go_wp2
    refine bodyPost_ret (v := .tuple #[.agg #[.int .i64 0, .func (.func 150) #[] #[]], .bool true]) (by simp [results, Tryd.results144, go_sem, c0, c1]) rfl ⟨rfl, (HB.out.setCell (by simp) _).setCell (by simp) _⟩
  · have d0 : wx.cell? ⟨w.heap.size + 1, 20, none⟩ = some (.int .i64 0) := HW' 20
    have d1 : wx.cell? ⟨w.heap.size + 1, 21, none⟩ = some (.func (.func 151) #[] #[]) := HW' 21
    clear HW'
    go_wp2
    refine bodyPost_ret (v := .tuple #[.agg #[.int .i64 0, .func (.func 151) #[] #[]], .bool true]) (by simp [results, Tryd.results144, go_sem, c0, c1]) rfl ⟨rfl, (HB.out.setCell (by simp) _).setCell (by simp) _⟩
  · have d0 : wx.cell? ⟨w.heap.size + 1, 22, none⟩ = some (.int .i64 1) := HW' 22
    have d1 : wx.cell? ⟨w.heap.size + 1, 23, none⟩ = some (.func (.func 150) #[] #[]) := HW' 23
    clear HW'
    go_wp2
    refine bodyPost_ret (v := .tuple #[.agg #[.int .i64 1, .func (.func 150) #[] #[]], .bool true]) (by simp [results, Tryd.results144, go_sem, c0, c1]) rfl ⟨rfl, (HB.out.setCell (by simp) _).setCell (by simp) _⟩
  · have d0 : wx.cell? ⟨w.heap.size + 1, 24, none⟩ = some (.int .i64 2) := HW' 24
    have d1 : wx.cell? ⟨w.heap.size + 1, 25, none⟩ = some (.func (.func 150) #[] #[]) := HW' 25
    clear HW'
    go_wp2
    refine bodyPost_ret (v := .tuple #[.agg #[.int .i64 2, .func (.func 150) #[] #[]], .bool true]) (by simp [results, Tryd.results144, go_sem, c0, c1]) rfl ⟨rfl, (HB.out.setCell (by simp) _).setCell (by simp) _⟩
  · have d0 : wx.cell? ⟨w.heap.size + 1, 26, none⟩ = some (.int .i64 2) := HW' 26
    have d1 : wx.cell? ⟨w.heap.size + 1, 27, none⟩ = some (.func (.func 150) #[] #[]) := HW' 27
    clear HW'
    go_wp2
    refine bodyPost_ret (v := .tuple #[.agg #[.int .i64 2, .func (.func 150) #[] #[]], .bool true]) (by simp [results, Tryd.results144, go_sem, c0, c1]) rfl ⟨rfl, (HB.out.setCell (by simp) _).setCell (by simp) _⟩

theorem opticForm_no (k : Int) (h : k < 1 ∨ 13 < k) (w : World) : Calls Tryd.prog 144 #[.int .i64 k] w fun e w' => e = .returned (.tuple #[.agg #[.int .i64 0, .nilFunc], .bool false]) ∧ Below w.heap.size w w' := by
  obtain ⟨hb, p0, hs⟩ := boxes1 w 178 #[.int .i64 0, .nilFunc]
  have c0 := p0.cell 0
  have c1 := p0.cell 1
  have f0 := p0.free 0
  have f1 := p0.free 1
  have HB := Lib.hid hb
  clear hb hs p0
  by_cases h1 : k < 1
  · clear h
    go_enter Tryd.func144, Tryd.ntmps144
    go_wp2
    refine bodyPost_ret (v := .tuple #[.agg #[.int .i64 0, .nilFunc], .bool false]) (by simp [results, Tryd.results144, go_sem, c0, c1]) rfl ⟨rfl, HB.out⟩
  · have h2 : 13 < k := by omega
    clear h
    go_enter Tryd.func144, Tryd.ntmps144
    go_wp2
    refine bodyPost_ret (v := .tuple #[.agg #[.int .i64 0, .nilFunc], .bool false]) (by simp [results, Tryd.results144, go_sem, c0, c1]) rfl ⟨rfl, HB.out⟩

/-- What the function of a kind asks of a name and a number. -/
def fitB (k n : Int) (nm : ByteArray) : Bool := (if k = 2 ∨ k = 3 ∨ k = 10 then isNameB nm else decide (nm.size = 0)) && numOB k n
theorem nodeOB_fit (k n : Int) (nm : ByteArray) (m : Nat) : nodeOB k n nm m = (decide ((m : Int) = arityI k) && fitB k n nm) := by
  unfold nodeOB fitB
  cases decide ((m : Int) = arityI k) <;> simp

set_option maxHeartbeats 1000000 in
theorem kindOnly_any (t : Ot) (v : Value) (w : World) (hv : OtAt w w.heap.size v t) : Calls Tryd.prog 150 #[v] w (BoolIs (decide (t.name.size = 0) && decide (t.num = 0)) w) := by
  obtain ⟨A, ac, rfl, _⟩ := hv.open
  obtain ⟨hb0, p0, hs0⟩ := boxes1 w 50 #[.int .i64 t.kind, .string t.name, .int .i64 t.num, .slice A t.args.length ac]
  clear hv hs0
  by_cases hn : t.name.size = 0
  · have hnil := osize_nil hn
    rw [show (decide (t.name.size = 0) && decide (t.num = 0)) = decide (t.num = 0) by simp [hn]]
    rw [hnil] at p0 hb0 ⊢
    clear hn
    by_cases hm : t.num = 0
    · have i1 : (t.num == 0) = true := by rw [beq_iff_eq]; exact hm
      rw [show decide (t.num = 0) = true by simp [hm]]
      clear hm
      go_enter Tryd.func150, Tryd.ntmps150
      go_wp2
      go_ret
      exact ⟨rfl, hb0⟩
    · have i1 : (t.num == 0) = false := by rw [beq_eq_false_iff_ne]; exact hm
      rw [show decide (t.num = 0) = false by simp [hm]]
      clear hm
      go_enter Tryd.func150, Tryd.ntmps150
      go_wp2
      go_ret
      exact ⟨rfl, hb0⟩
  · have i2 := otoList_nil_no hn
    rw [show (decide (t.name.size = 0) && decide (t.num = 0)) = false by simp [hn]]
    clear hn
    go_enter Tryd.func150, Tryd.ntmps150
    go_wp2
    go_ret
    exact ⟨rfl, hb0⟩

set_option maxHeartbeats 1000000 in
theorem nameOnly_any (t : Ot) (v : Value) (w : World) (hv : OtAt w w.heap.size v t) : Calls Tryd.prog 151 #[v] w (BoolIs (isNameB t.name && decide (t.num = 0)) w) := by
  obtain ⟨A, ac, rfl, hnm, _⟩ := hv.open
  obtain ⟨hb0, p0, hs0⟩ := boxes1 w 50 #[.int .i64 t.kind, .string t.name, .int .i64 t.num, .slice A t.args.length ac]
  have HN := fun W => implIsName_any t.name W hnm
  clear hv hs0
  cases hin : isNameB t.name
  · rw [hin] at HN
    have HN' := Lib.hid HN
    clear HN hin
    go_enter Tryd.func151, Tryd.ntmps151
    go_wp2_with fail
    refine (HN'.out _).mono ?_
    rintro e w1 ⟨rfl, hb1⟩
    go_wp2
    go_ret
    exact ⟨rfl, hb0.trans (hb1.mono hb0.size)⟩
  · rw [hin] at HN
    have HN' := Lib.hid HN
    clear HN hin
    have hpl := p0.lt
    go_enter Tryd.func151, Tryd.ntmps151
    go_wp2_with fail
    generalize w.alloc (.cells #[.int .i64 t.kind, .string t.name, .int .i64 t.num, .slice A t.args.length ac] 50) = w0 at *
    refine (HN'.out _).mono ?_
    rintro e w1 ⟨rfl, hb1⟩
    have c2 : w1.cell? ⟨w.heap.size, 2, none⟩ = some (.int .i64 t.num) := (p0.below hb1 hpl).cell 2
    have hb2 := hb0.trans (hb1.mono hb0.size)
    by_cases hm : t.num = 0
    · have i1 : (t.num == 0) = true := by rw [beq_iff_eq]; exact hm
      have hr := Lib.hid (show decide (t.num = 0) = true by simp [hm])
      clear hm
      go_wp2
      go_ret
      exact ⟨by rw [hr.out]; rfl, hb2⟩
    · have i1 : (t.num == 0) = false := by rw [beq_eq_false_iff_ne]; exact hm
      have hr := Lib.hid (show decide (t.num = 0) = false by simp [hm])
      clear hm
      go_wp2
      go_ret
      exact ⟨by rw [hr.out]; rfl, hb2⟩

set_option maxHeartbeats 1000000 in
theorem indexOnly_any (t : Ot) (v : Value) (w : World) (hv : OtAt w w.heap.size v t) : Calls Tryd.prog 152 #[v] w (BoolIs (decide (t.name.size = 0) && decide (0 ≤ t.num ∧ t.num ≤ 1000)) w) := by
  obtain ⟨A, ac, rfl, _⟩ := hv.open
  obtain ⟨hb0, p0, hs0⟩ := boxes1 w 50 #[.int .i64 t.kind, .string t.name, .int .i64 t.num, .slice A t.args.length ac]
  clear hv hs0
  by_cases hn : t.name.size = 0
  · have hnil := osize_nil hn
    rw [show (decide (t.name.size = 0) && decide (0 ≤ t.num ∧ t.num ≤ 1000)) = decide (0 ≤ t.num ∧ t.num ≤ 1000) by simp [hn]]
    rw [hnil] at p0 hb0 ⊢
    clear hn
    by_cases hm : 0 ≤ t.num
    · have i1 : decide (0 ≤ t.num) = true := by simp; omega
      by_cases hm2 : t.num ≤ 1000
      · have i3 : decide (t.num ≤ 1000) = true := by simp; omega
        rw [show decide (0 ≤ t.num ∧ t.num ≤ 1000) = true from decide_eq_true ⟨hm, hm2⟩]
        go_enter Tryd.func152, Tryd.ntmps152
        go_wp2
        go_ret
        exact ⟨rfl, hb0⟩
      · have i3 : decide (t.num ≤ 1000) = false := by simp; omega
        rw [show decide (0 ≤ t.num ∧ t.num ≤ 1000) = false from decide_eq_false fun h => hm2 h.2]
        clear hm2
        go_enter Tryd.func152, Tryd.ntmps152
        go_wp2
        go_ret
        exact ⟨rfl, hb0⟩
    · have i1 : decide (0 ≤ t.num) = false := by simp; omega
      rw [show decide (0 ≤ t.num ∧ t.num ≤ 1000) = false from decide_eq_false fun h => hm h.1]
      clear hm
      go_enter Tryd.func152, Tryd.ntmps152
      go_wp2
      go_ret
      exact ⟨rfl, hb0⟩
  · have i2 := otoList_nil_no hn
    rw [show (decide (t.name.size = 0) && decide (0 ≤ t.num ∧ t.num ≤ 1000)) = false by simp [hn]]
    clear hn
    go_enter Tryd.func152, Tryd.ntmps152
    go_wp2
    go_ret
    exact ⟨rfl, hb0⟩

set_option maxHeartbeats 1000000 in
theorem summandOnly_any (t : Ot) (v : Value) (w : World) (hv : OtAt w w.heap.size v t) : Calls Tryd.prog 153 #[v] w (BoolIs (decide (t.name.size = 0) && decide (-1000 ≤ t.num ∧ t.num ≤ 1000)) w) := by
  obtain ⟨A, ac, rfl, _⟩ := hv.open
  obtain ⟨hb0, p0, hs0⟩ := boxes1 w 50 #[.int .i64 t.kind, .string t.name, .int .i64 t.num, .slice A t.args.length ac]
  clear hv hs0
  by_cases hn : t.name.size = 0
  · have hnil := osize_nil hn
    rw [show (decide (t.name.size = 0) && decide (-1000 ≤ t.num ∧ t.num ≤ 1000)) = decide (-1000 ≤ t.num ∧ t.num ≤ 1000) by simp [hn]]
    rw [hnil] at p0 hb0 ⊢
    clear hn
    by_cases hm : -1000 ≤ t.num
    · have i1 : decide (-1000 ≤ t.num) = true := by simp; omega
      by_cases hm2 : t.num ≤ 1000
      · have i3 : decide (t.num ≤ 1000) = true := by simp; omega
        rw [show decide (-1000 ≤ t.num ∧ t.num ≤ 1000) = true from decide_eq_true ⟨hm, hm2⟩]
        go_enter Tryd.func153, Tryd.ntmps153
        go_wp2
        go_ret
        exact ⟨rfl, hb0⟩
      · have i3 : decide (t.num ≤ 1000) = false := by simp; omega
        rw [show decide (-1000 ≤ t.num ∧ t.num ≤ 1000) = false from decide_eq_false fun h => hm2 h.2]
        clear hm2
        go_enter Tryd.func153, Tryd.ntmps153
        go_wp2
        go_ret
        exact ⟨rfl, hb0⟩
    · have i1 : decide (-1000 ≤ t.num) = false := by simp; omega
      rw [show decide (-1000 ≤ t.num ∧ t.num ≤ 1000) = false from decide_eq_false fun h => hm h.1]
      clear hm
      go_enter Tryd.func153, Tryd.ntmps153
      go_wp2
      go_ret
      exact ⟨rfl, hb0⟩
  · have i2 := otoList_nil_no hn
    rw [show (decide (t.name.size = 0) && decide (-1000 ≤ t.num ∧ t.num ≤ 1000)) = false by simp [hn]]
    clear hn
    go_enter Tryd.func153, Tryd.ntmps153
    go_wp2
    go_ret
    exact ⟨rfl, hb0⟩

theorem fit_any (k : Int) (t : Ot) (v : Value) (w : World) (hv : OtAt w w.heap.size v t) : Calls Tryd.prog (fitFn k) #[v] w (BoolIs (fitB k t.num t.name) w) := by
  unfold fitFn fitB numOB
  by_cases h1 : k = 2 ∨ k = 3 ∨ k = 10
  · rw [if_pos h1, if_pos h1, if_neg (by omega), if_neg (by omega)]
    exact nameOnly_any t v w hv
  · rw [if_neg h1, if_neg h1]
    by_cases h2 : k = 6
    · rw [if_pos h2, if_pos h2]
      exact indexOnly_any t v w hv
    · rw [if_neg h2, if_neg h2]
      by_cases h3 : k = 7
      · rw [if_pos h3, if_pos h3]
        exact summandOnly_any t v w hv
      · rw [if_neg h3, if_neg h3]
        exact kindOnly_any t v w hv

set_option maxHeartbeats 4000000 in
theorem hasForm_any (t : Ot) (v : Value) (w : World) (hv : OtAt w w.heap.size v t) : Calls Tryd.prog 130 #[v] w (BoolIs (nodeOB t.kind t.num t.name t.args.length) w) := by
  have hv0 := hv
  rw [nodeOB_fit]
  obtain ⟨A, ac, rfl, _, ha⟩ := hv.open
  have hm := ha.1
  unfold maxLen at hm
  obtain ⟨hb0, p0, hs0⟩ := boxes1 w 50 #[.int .i64 t.kind, .string t.name, .int .i64 t.num, .slice A t.args.length ac]
  have hv1 := hv0.up hb0
  have hpl := p0.lt
  clear hv hv0 ha hs0
  by_cases hk : 1 ≤ t.kind ∧ t.kind ≤ 13
  · have HF0 := fun W => opticForm_yes t.kind hk.1 hk.2 W
    have HT0 := fun V W h => fit_any t.kind t V W h
    have hcl : fitFn t.kind = 150 ∨ fitFn t.kind = 151 ∨ fitFn t.kind = 152 ∨ fitFn t.kind = 153 := by unfold fitFn; split; exact .inr (.inl rfl); split; exact .inr (.inr (.inl rfl)); split; exact .inr (.inr (.inr rfl)); exact .inl rfl
    clear hk
    rcases hcl with hf | hf | hf | hf
    · rw [hf] at HF0 HT0
      have HF := Lib.hid HF0
      have HT1 := Lib.hid HT0
      clear hf HF0 HT0
      go_enter Tryd.func130, Tryd.ntmps130
      go_wp2_with fail
      generalize w.alloc (.cells #[.int .i64 t.kind, .string t.name, .int .i64 t.num, .slice A t.args.length ac] 50) = w0 at *
      refine (HF.out _).mono ?_
      rintro e w1 ⟨rfl, hb1⟩
      have p1 := p0.below hb1 hpl
      have hv2 := hv1.up hb1
      have hb1' := hb0.trans (hb1.mono hb0.size)
      have hpl1 := p1.lt
      obtain ⟨hb2, q2, hs2⟩ := boxes1 w1 178 #[.int .i64 (arityI t.kind), .func (.func 150) #[] #[]]
      have hv3 := hv2.up hb2
      have hb2' := hb1'.trans (hb2.mono hb1'.size)
      have c0 : w1.cell? ⟨w.heap.size, 0, none⟩ = some (.int .i64 t.kind) := p1.cell 0
      have c1 : w1.cell? ⟨w.heap.size, 1, none⟩ = some (.string t.name) := p1.cell 1
      have c2 : w1.cell? ⟨w.heap.size, 2, none⟩ = some (.int .i64 t.num) := p1.cell 2
      have c3 : w1.cell? ⟨w.heap.size, 3, none⟩ = some (.slice A t.args.length ac) := p1.cell 3
      clear hs2 hv2 p0 hv1
      by_cases hl : (t.args.length : Int) = arityI t.kind
      · have i3 : ((t.args.length : Int) == arityI t.kind) = true := by rw [beq_iff_eq]; exact hl
        have hr := Lib.hid (show (decide ((t.args.length : Int) = arityI t.kind) && fitB t.kind t.num t.name) = fitB t.kind t.num t.name by rw [decide_eq_true hl, Bool.true_and])
        have HT := Lib.hid (HT1.out _ _ hv3)
        clear hl hv3
        go_wp2_with fail
        refine HT.out.mono ?_
        rintro e w3 ⟨rfl, hb3⟩
        go_wp2
        go_ret
        exact ⟨by rw [hr.out]; rfl, hb2'.trans (hb3.mono hb2'.size)⟩
      · have i3 : ((t.args.length : Int) == arityI t.kind) = false := by rw [beq_eq_false_iff_ne]; exact hl
        have hr := Lib.hid (show (decide ((t.args.length : Int) = arityI t.kind) && fitB t.kind t.num t.name) = false by rw [decide_eq_false hl, Bool.false_and])
        clear hl hv3
        go_wp2
        go_ret
        exact ⟨by rw [hr.out]; rfl, hb2'⟩
    · rw [hf] at HF0 HT0
      have HF := Lib.hid HF0
      have HT1 := Lib.hid HT0
      clear hf HF0 HT0
      go_enter Tryd.func130, Tryd.ntmps130
      go_wp2_with fail
      generalize w.alloc (.cells #[.int .i64 t.kind, .string t.name, .int .i64 t.num, .slice A t.args.length ac] 50) = w0 at *
      refine (HF.out _).mono ?_
      rintro e w1 ⟨rfl, hb1⟩
      have p1 := p0.below hb1 hpl
      have hv2 := hv1.up hb1
      have hb1' := hb0.trans (hb1.mono hb0.size)
      have hpl1 := p1.lt
      obtain ⟨hb2, q2, hs2⟩ := boxes1 w1 178 #[.int .i64 (arityI t.kind), .func (.func 151) #[] #[]]
      have hv3 := hv2.up hb2
      have hb2' := hb1'.trans (hb2.mono hb1'.size)
      have c0 : w1.cell? ⟨w.heap.size, 0, none⟩ = some (.int .i64 t.kind) := p1.cell 0
      have c1 : w1.cell? ⟨w.heap.size, 1, none⟩ = some (.string t.name) := p1.cell 1
      have c2 : w1.cell? ⟨w.heap.size, 2, none⟩ = some (.int .i64 t.num) := p1.cell 2
      have c3 : w1.cell? ⟨w.heap.size, 3, none⟩ = some (.slice A t.args.length ac) := p1.cell 3
      clear hs2 hv2 p0 hv1
      by_cases hl : (t.args.length : Int) = arityI t.kind
      · have i3 : ((t.args.length : Int) == arityI t.kind) = true := by rw [beq_iff_eq]; exact hl
        have hr := Lib.hid (show (decide ((t.args.length : Int) = arityI t.kind) && fitB t.kind t.num t.name) = fitB t.kind t.num t.name by rw [decide_eq_true hl, Bool.true_and])
        have HT := Lib.hid (HT1.out _ _ hv3)
        clear hl hv3
        go_wp2_with fail
        refine HT.out.mono ?_
        rintro e w3 ⟨rfl, hb3⟩
        go_wp2
        go_ret
        exact ⟨by rw [hr.out]; rfl, hb2'.trans (hb3.mono hb2'.size)⟩
      · have i3 : ((t.args.length : Int) == arityI t.kind) = false := by rw [beq_eq_false_iff_ne]; exact hl
        have hr := Lib.hid (show (decide ((t.args.length : Int) = arityI t.kind) && fitB t.kind t.num t.name) = false by rw [decide_eq_false hl, Bool.false_and])
        clear hl hv3
        go_wp2
        go_ret
        exact ⟨by rw [hr.out]; rfl, hb2'⟩
    · rw [hf] at HF0 HT0
      have HF := Lib.hid HF0
      have HT1 := Lib.hid HT0
      clear hf HF0 HT0
      go_enter Tryd.func130, Tryd.ntmps130
      go_wp2_with fail
      generalize w.alloc (.cells #[.int .i64 t.kind, .string t.name, .int .i64 t.num, .slice A t.args.length ac] 50) = w0 at *
      refine (HF.out _).mono ?_
      rintro e w1 ⟨rfl, hb1⟩
      have p1 := p0.below hb1 hpl
      have hv2 := hv1.up hb1
      have hb1' := hb0.trans (hb1.mono hb0.size)
      have hpl1 := p1.lt
      obtain ⟨hb2, q2, hs2⟩ := boxes1 w1 178 #[.int .i64 (arityI t.kind), .func (.func 152) #[] #[]]
      have hv3 := hv2.up hb2
      have hb2' := hb1'.trans (hb2.mono hb1'.size)
      have c0 : w1.cell? ⟨w.heap.size, 0, none⟩ = some (.int .i64 t.kind) := p1.cell 0
      have c1 : w1.cell? ⟨w.heap.size, 1, none⟩ = some (.string t.name) := p1.cell 1
      have c2 : w1.cell? ⟨w.heap.size, 2, none⟩ = some (.int .i64 t.num) := p1.cell 2
      have c3 : w1.cell? ⟨w.heap.size, 3, none⟩ = some (.slice A t.args.length ac) := p1.cell 3
      clear hs2 hv2 p0 hv1
      by_cases hl : (t.args.length : Int) = arityI t.kind
      · have i3 : ((t.args.length : Int) == arityI t.kind) = true := by rw [beq_iff_eq]; exact hl
        have hr := Lib.hid (show (decide ((t.args.length : Int) = arityI t.kind) && fitB t.kind t.num t.name) = fitB t.kind t.num t.name by rw [decide_eq_true hl, Bool.true_and])
        have HT := Lib.hid (HT1.out _ _ hv3)
        clear hl hv3
        go_wp2_with fail
        refine HT.out.mono ?_
        rintro e w3 ⟨rfl, hb3⟩
        go_wp2
        go_ret
        exact ⟨by rw [hr.out]; rfl, hb2'.trans (hb3.mono hb2'.size)⟩
      · have i3 : ((t.args.length : Int) == arityI t.kind) = false := by rw [beq_eq_false_iff_ne]; exact hl
        have hr := Lib.hid (show (decide ((t.args.length : Int) = arityI t.kind) && fitB t.kind t.num t.name) = false by rw [decide_eq_false hl, Bool.false_and])
        clear hl hv3
        go_wp2
        go_ret
        exact ⟨by rw [hr.out]; rfl, hb2'⟩
    · rw [hf] at HF0 HT0
      have HF := Lib.hid HF0
      have HT1 := Lib.hid HT0
      clear hf HF0 HT0
      go_enter Tryd.func130, Tryd.ntmps130
      go_wp2_with fail
      generalize w.alloc (.cells #[.int .i64 t.kind, .string t.name, .int .i64 t.num, .slice A t.args.length ac] 50) = w0 at *
      refine (HF.out _).mono ?_
      rintro e w1 ⟨rfl, hb1⟩
      have p1 := p0.below hb1 hpl
      have hv2 := hv1.up hb1
      have hb1' := hb0.trans (hb1.mono hb0.size)
      have hpl1 := p1.lt
      obtain ⟨hb2, q2, hs2⟩ := boxes1 w1 178 #[.int .i64 (arityI t.kind), .func (.func 153) #[] #[]]
      have hv3 := hv2.up hb2
      have hb2' := hb1'.trans (hb2.mono hb1'.size)
      have c0 : w1.cell? ⟨w.heap.size, 0, none⟩ = some (.int .i64 t.kind) := p1.cell 0
      have c1 : w1.cell? ⟨w.heap.size, 1, none⟩ = some (.string t.name) := p1.cell 1
      have c2 : w1.cell? ⟨w.heap.size, 2, none⟩ = some (.int .i64 t.num) := p1.cell 2
      have c3 : w1.cell? ⟨w.heap.size, 3, none⟩ = some (.slice A t.args.length ac) := p1.cell 3
      clear hs2 hv2 p0 hv1
      by_cases hl : (t.args.length : Int) = arityI t.kind
      · have i3 : ((t.args.length : Int) == arityI t.kind) = true := by rw [beq_iff_eq]; exact hl
        have hr := Lib.hid (show (decide ((t.args.length : Int) = arityI t.kind) && fitB t.kind t.num t.name) = fitB t.kind t.num t.name by rw [decide_eq_true hl, Bool.true_and])
        have HT := Lib.hid (HT1.out _ _ hv3)
        clear hl hv3
        go_wp2_with fail
        refine HT.out.mono ?_
        rintro e w3 ⟨rfl, hb3⟩
        go_wp2
        go_ret
        exact ⟨by rw [hr.out]; rfl, hb2'.trans (hb3.mono hb2'.size)⟩
      · have i3 : ((t.args.length : Int) == arityI t.kind) = false := by rw [beq_eq_false_iff_ne]; exact hl
        have hr := Lib.hid (show (decide ((t.args.length : Int) = arityI t.kind) && fitB t.kind t.num t.name) = false by rw [decide_eq_false hl, Bool.false_and])
        clear hl hv3
        go_wp2
        go_ret
        exact ⟨by rw [hr.out]; rfl, hb2'⟩
  · have HF := Lib.hid (fun W => opticForm_no t.kind (by omega) W)
    rw [show decide ((t.args.length : Int) = arityI t.kind) = false from decide_eq_false (by unfold arityI; rw [if_neg (by omega), if_neg (by omega), if_neg (by omega)]; omega), Bool.false_and]
    clear hk
    go_enter Tryd.func130, Tryd.ntmps130
    go_wp2_with fail
    generalize w.alloc (.cells #[.int .i64 t.kind, .string t.name, .int .i64 t.num, .slice A t.args.length ac] 50) = w0 at *
    refine (HF.out _).mono ?_
    rintro e w1 ⟨rfl, hb1⟩
    have hb1' := hb0.trans (hb1.mono hb0.size)
    go_wp2
    go_ret
    exact ⟨rfl, hb1'.alloc hb1'.size _⟩

theorem depthOts_le (m : Nat) : ∀ (ts : List Ot), (∀ i, (h : i < ts.length) → depthOt ts[i] ≤ m) → depthOts ts ≤ m
  | [], _ => by rw [depthOts]; omega
  | t :: r, h => by
    rw [depthOts]
    have h0 : depthOt t ≤ m := h 0 (by simp)
    have := depthOts_le m r fun i hi => h (i + 1) (by simpa using hi)
    omega
theorem depthOts_at : ∀ (ts : List Ot) (i : Nat) (h : i < ts.length), depthOt ts[i] ≤ depthOts ts
  | t :: r, 0, _ => by
    rw [depthOts]
    simp only [List.getElem_cons_zero]
    omega
  | t :: r, i + 1, h => by
    rw [depthOts]
    have := depthOts_at r i (by simpa using h)
    simp only [List.getElem_cons_succ]
    omega

/-- Has it forms, and a depth of at most d? -/
def deepB (t : Ot) (d : Int) : Bool := decide ((depthOt t : Int) ≤ d) && formOt t
def DeepOne (t : Ot) : Prop := ∀ (d : Int) (v : Value) (w : World), 0 ≤ d → d ≤ 10 → OtAt w w.heap.size v t → Calls Tryd.prog 98 #[v, .int .i64 d] w (BoolIs (deepB t d) w)

set_option maxHeartbeats 4000000 in
theorem hasForms_of (t : Ot) (hall : ∀ i, (h : i < t.args.length) → DeepOne t.args[i]) : DeepOne t := by
  intro d v w hd0 hd1 hv
  have hv0 := hv
  have hde := depthOt_eq t
  have hfe := formOt_eq t
  have HN0 := fun W h => hasForm_any t v W h
  obtain ⟨A, ac, rfl, _, ha⟩ := hv.open
  have hm := ha.1
  unfold maxLen at hm
  obtain ⟨hb0, p0, hs0⟩ := boxes1 w 50 #[.int .i64 t.kind, .string t.name, .int .i64 t.num, .slice A t.args.length ac]
  have hv1 := hv0.up hb0
  have ha0 := ha.up hb0
  have hpl := p0.lt
  have HALL := Lib.hid hall
  have HDE := Lib.hid hde
  have HFE := Lib.hid hfe
  clear hv hv0 hs0 hall hde hfe ha
  by_cases hz : d = 0
  · subst hz
    have hr := Lib.hid (show deepB t 0 = false by unfold deepB; rw [decide_eq_false (by have := HDE.out; omega), Bool.false_and])
    clear hd0 hd1
    go_enter Tryd.func98, Tryd.ntmps98
    go_wp2
    go_ret
    exact ⟨by rw [hr.out]; rfl, hb0⟩
  · have i0 : (d == 0) = false := by rw [beq_eq_false_iff_ne]; exact hz
    cases hn : nodeOB t.kind t.num t.name t.args.length
    · rw [hn] at HN0
      have HN := Lib.hid HN0
      have hr := Lib.hid (show deepB t d = false by unfold deepB; rw [HFE.out, hn, Bool.and_false, Bool.and_false])
      clear hn HN0
      go_enter Tryd.func98, Tryd.ntmps98
      go_wp2_with fail
      refine (HN.out _ hv1).mono ?_
      rintro e w1 ⟨rfl, hb1⟩
      go_wp2
      go_ret
      exact ⟨by rw [hr.out]; rfl, hb0.trans (hb1.mono hb0.size)⟩
    · rw [hn] at HN0
      have HN := Lib.hid HN0
      have hfo := Lib.hid (show formOt t = formOts t.args by rw [HFE.out, hn, Bool.and_true])
      clear hn HN0
      go_enter Tryd.func98, Tryd.ntmps98
      go_wp2_with fail
      generalize w.alloc (.cells #[.int .i64 t.kind, .string t.name, .int .i64 t.num, .slice A t.args.length ac] 50) = w0 at *
      refine (HN.out _ hv1).mono ?_
      rintro e w1 ⟨rfl, hb1⟩
      have p1 := p0.below hb1 hpl
      have ha1 := ha0.up hb1
      have hb1' := hb0.trans (hb1.mono hb0.size)
      have hpl1 := p1.lt
      have c3 : w1.cell? ⟨w.heap.size, 3, none⟩ = some (.slice A t.args.length ac) := p1.cell 3
      clear p0 ha0 hv1
      go_wp2
      go_loopw [17] (fun i wr => ∃ k : Nat, k ≤ t.args.length ∧ i = .int .i64 k ∧ (∀ j, (hj : j < t.args.length) → j < k → deepB t.args[j] (d - 1) = true) ∧ Below w1.heap.size w1 wr) (fun i _ => t.args.length - (intOf i).toNat)
      case atStart => exact ⟨0, Nat.zero_le _, rfl, fun j _ h => absurd h (by omega), Below.refl _ _⟩
      case round =>
        obtain ⟨k, hk, rfl, hall, hb⟩ := hrel
        have HA := Lib.hid hall
        clear hall
        by_cases hlt : k < t.args.length
        · obtain ⟨b, off, A1, ac1, rfl, hbl, q0, q1, q2, q3, ht⟩ := (ha1.below hb).elem k hlt
          have hbx : Below wr.heap.size wr (wr.alloc (.cells #[.int .i64 t.args[k].kind, .string t.args[k].name, .int .i64 t.args[k].num, .slice A1 t.args[k].args.length ac1] 50)) := (Below.refl _ _).alloc (Nat.le_refl _) _
          have hbx' := hb.trans (hbx.mono hb.size)
          have HT := HALL.out k hlt (d - 1) _ _ (by omega) (by omega) ((ht.more hb.size).up hbx)
          cases hfk : deepB t.args[k] (d - 1)
          · rw [hfk] at HT
            have HT' := Lib.hid HT
            have hr := Lib.hid (show deepB t d = false by
              unfold deepB at hfk ⊢
              rw [hfo.out]
              by_cases h2 : (depthOt t : Int) ≤ d
              · have h3 := depthOts_at t.args k hlt
                have h4 := HDE.out
                rw [decide_eq_true (by omega), Bool.true_and] at hfk
                rw [formOts_no t.args k hlt hfk, Bool.and_false]
              · rw [decide_eq_false h2, Bool.false_and])
            clear ht HT hfk
            go_wp2_with fail
            refine HT'.out.mono ?_
            rintro e w2 ⟨rfl, hb2⟩
            go_wp2
            go_ret
            exact ⟨by rw [hr.out]; rfl, hb1'.trans ((hbx'.trans (hb2.mono hbx'.size)).mono hb1'.size)⟩
          · rw [hfk] at HT
            have HT' := Lib.hid HT
            have HK := Lib.hid hfk
            clear ht HT hfk
            go_wp2_with fail
            refine HT'.out.mono ?_
            rintro e w2 ⟨rfl, hb2⟩
            go_wp2
            go_roundw
            case rel =>
              refine ⟨k + 1, by omega, by go_num, fun j hj h => ?_, hbx'.trans (hb2.mono hbx'.size)⟩
              by_cases e : j = k
              · subst e
                exact HK.out
              · exact HA.out j hj (by omega)
            case measure => simp [intOf]; omega
        · have hr := Lib.hid (show deepB t d = true by
            have h1 : ∀ i, (hi : i < t.args.length) → (depthOt t.args[i] : Int) ≤ d - 1 ∧ formOt t.args[i] = true := fun i hi => by
              have := HA.out i hi (by omega)
              unfold deepB at this
              rw [Bool.and_eq_true, decide_eq_true_eq] at this
              exact this
            have h2 := depthOts_le (d - 1).toNat t.args fun i hi => by have := (h1 i hi).1; omega
            have h3 := HDE.out
            unfold deepB
            rw [hfo.out, formOts_all t.args fun i hi => (h1 i hi).2, decide_eq_true (by omega), Bool.true_and])
          go_wp2
          go_ret
          exact ⟨by rw [hr.out]; rfl, hb1'.trans (hb.mono hb1'.size)⟩

theorem hasForms_any (t : Ot) : DeepOne t := by
  induction t using Ot.ind with
  | h k n nm ts ih => exact hasForms_of (.mk k n nm ts) ih

set_option maxHeartbeats 1000000 in
theorem implIsOptic_any (t : Ot) (v : Value) (w : World) (hv : OwnO w v t) (hsz : sizeOt t ≤ 2000000) : Calls Tryd.prog 59 #[v] w (BoolIs (opticB t) w) := by
  have HF0 := fun W h => hasForms_any t 10 v W (by omega) (by omega) h
  have HS := Lib.hid (fun W h => O.implSizeO_any t v W h hsz)
  obtain ⟨A, ac, hvv, _⟩ := hv.open
  subst hvv
  obtain ⟨hb0, p0, hs0⟩ := boxes1 w 50 #[.int .i64 t.kind, .string t.name, .int .i64 t.num, .slice A t.args.length ac]
  have hv1 := hv.up hb0
  have hpl := p0.lt
  clear hv hs0
  cases hd : deepB t 10
  · rw [hd] at HF0
    have HF := Lib.hid HF0
    have hr := Lib.hid (show opticB t = false by
      unfold opticB
      unfold deepB at hd
      by_cases h10 : depthOt t ≤ 10
      · rw [decide_eq_true (by omega), Bool.true_and] at hd
        rw [hd, Bool.and_false]
      · rw [decide_eq_false h10, Bool.and_false, Bool.false_and])
    clear hd HF0
    go_enter Tryd.func59, Tryd.ntmps59
    go_wp2_with fail
    refine (HF.out _ hv1.here).mono ?_
    rintro e w1 ⟨rfl, hb1⟩
    go_wp2
    go_ret
    exact ⟨by rw [hr.out]; rfl, hb0.trans (hb1.mono hb0.size)⟩
  · rw [hd] at HF0
    have HF := Lib.hid HF0
    have hr0 := Lib.hid (show opticB t = decide (sizeOt t ≤ 20) by
      unfold opticB
      unfold deepB at hd
      rw [Bool.and_eq_true, decide_eq_true_eq] at hd
      rw [hd.2, decide_eq_true (show depthOt t ≤ 10 by have := hd.1; omega), Bool.and_true, Bool.and_true])
    clear hd HF0
    go_enter Tryd.func59, Tryd.ntmps59
    go_wp2_with fail
    generalize w.alloc (.cells #[.int .i64 t.kind, .string t.name, .int .i64 t.num, .slice A t.args.length ac] 50) = w0 at *
    refine (HF.out _ hv1.here).mono ?_
    rintro e w1 ⟨rfl, hb1⟩
    have p1 := p0.below hb1 hpl
    have hv2 := hv1.up hb1
    have hb1' := hb0.trans (hb1.mono hb0.size)
    have c0 : w1.cell? ⟨w.heap.size, 0, none⟩ = some (.int .i64 t.kind) := p1.cell 0
    have c1 : w1.cell? ⟨w.heap.size, 1, none⟩ = some (.string t.name) := p1.cell 1
    have c2 : w1.cell? ⟨w.heap.size, 2, none⟩ = some (.int .i64 t.num) := p1.cell 2
    have c3 : w1.cell? ⟨w.heap.size, 3, none⟩ = some (.slice A t.args.length ac) := p1.cell 3
    go_wp2_with fail
    refine (HS.out _ hv2).mono ?_
    rintro e w2 ⟨rfl, hb2⟩
    by_cases h20 : sizeOt t ≤ 20
    · have i1 : decide ((sizeOt t : Int) ≤ 20) = true := by simp; omega
      have hr := Lib.hid (show opticB t = true by rw [hr0.out, decide_eq_true h20])
      go_wp2
      go_ret
      exact ⟨by rw [hr.out]; rfl, hb1'.trans (hb2.mono hb1'.size)⟩
    · have i1 : decide ((sizeOt t : Int) ≤ 20) = false := by simp; omega
      have hr := Lib.hid (show opticB t = false by rw [hr0.out, decide_eq_false h20])
      go_wp2
      go_ret
      exact ⟨by rw [hr.out]; rfl, hb1'.trans (hb2.mono hb1'.size)⟩

end Go.Proofs.YtlmbnefoobameaaDoor
end

section
namespace Go.Proofs.YtlmbnefoobameaaDoor
open Go Go.RowKit
attribute [local go_sem ↓] Go.wp_at_zero Go.wp_at_succ

theorem rest_zeroI (s : ByteArray) : restOf s 0 = s.data.toList := by simp [restOf]
theorem parseO_here {s : ByteArray} {t : Ot} (h : rdOi 10 (restOf s 0) = some (t, [])) : parseOB s = if opticB t = true then some t else none := by
  rw [parseOB_oi, ← rest_zeroI, h]
theorem parseO_no {s : ByteArray} (h : rdOi 10 (restOf s 0) = none) : parseOB s = none := by
  rw [parseOB_oi, ← rest_zeroI, h]
theorem parseO_more {s : ByteArray} {t : Ot} {q : List UInt8} (h : rdOi 10 (restOf s 0) = some (t, q)) (hq : q ≠ []) : parseOB s = none := by
  rw [parseOB_oi, ← rest_zeroI, h]
  cases q with
  | nil => exact absurd rfl hq
  | cons a q => rfl
theorem grown_lowO {w w1 W : World} {p : Nat} (hb : Below w.heap.size w w1) (hg : w1.grownBy W (some p)) (hp : w.heap.size ≤ p) : Below w.heap.size w W :=
  ⟨hg.os.trans hb.os, hg.tape.trans hb.tape, hg.output.trans hb.output, Nat.le_trans hb.size hg.size, fun q hq => (hg.block q (Nat.lt_of_lt_of_le hq hb.size) (fun e => by injection e with e; omega)).trans (hb.block q hq)⟩

set_option maxHeartbeats 8000000 in
set_option maxRecDepth 100000 in
theorem implParseO_any (s : ByteArray) (w : World) (hs : s.size ≤ 1048576) (hN : OI.NumsO w w.heap.size) : Calls Tryd.prog 28 #[.string s] w (ParsePostO s w) := by
  obtain ⟨hb0, z0, hs0⟩ := boxes1 w 50 #[.int .i64 0, .string ⟨#[]⟩, .int .i64 0, .slice none 0 0]
  have HRO := Lib.hid (fun W => readerOf_any s W)
  have HTY := Lib.hid (OI.readR_all 10 (Nat.le_refl _))
  have HV := Lib.hid (fun t V W h hsz => implIsOptic_any t V W h hsz)
  have HN := Lib.hid hN
  clear hN
  go_enter Tryd.func28, Tryd.ntmps28
  go_upto_region 1 with fail
  generalize w.alloc (.cells #[.int .i64 0, .string ⟨#[]⟩, .int .i64 0, .slice none 0 0] 50) = wa at *
  go_wp2_with fail
  refine (HRO.out wa).mono ?_
  rintro e w1 ⟨ps, pa, rfl, hr1, hb1, hps, hpa⟩
  have z1 := z0.below hb1 z0.lt
  have hB1 := hb0.trans (hb1.mono hb0.size)
  have hws : w.heap.size < wa.heap.size := z0.lt
  clear hb0 hb1 z0 hs0
  obtain ⟨hb2, y2, hs2⟩ := boxes1 w1 87 #[rdAcc ps pa, rdTak ps pa, rdEnd ps pa]
  have r2 := hr1.below hb2 hr1.lts hr1.lta
  have Y2 : Hid (Whole1 (w1.alloc (.cells #[rdAcc ps pa, rdTak ps pa, rdEnd ps pa] 87)) w1.heap.size 87 #[rdAcc ps pa, rdTak ps pa, rdEnd ps pa]) := Lib.hid y2
  have z2 := z1.below hb2 z1.lt
  have hB2 := hB1.trans (hb2.mono hB1.size)
  have hpal := hr1.lta
  have hpsl := hr1.lts
  have hb12 := hB1.size
  clear hr1 z1 hb2 hB1 y2
  go_upto_region 2 with fail
  generalize hy1 : w1.heap.size = y1 at *
  generalize w1.alloc (.cells #[rdAcc ps pa, rdTak ps pa, rdEnd ps pa] 87) = w2 at *
  have HVR : Hid (OI.RO w.heap.size w2 ps pa s 0) := Lib.hid ⟨r2, HN.out.below hB2, by omega, by omega⟩
  have Z2 : Hid (Whole1 w2 w.heap.size 50 #[.int .i64 0, .string ⟨#[]⟩, .int .i64 0, .slice none 0 0]) := Lib.hid z2
  have B2 := Lib.hid hB2
  clear z2 r2 hB2
  have b0 : w2.cell? ⟨y1, 0, none⟩ = some (rdAcc ps pa) := Y2.out.cell 0
  have b1 : w2.cell? ⟨y1, 1, none⟩ = some (rdTak ps pa) := Y2.out.cell 1
  have b2 : w2.cell? ⟨y1, 2, none⟩ = some (rdEnd ps pa) := Y2.out.cell 2
  have HCC := Lib.hid (HTY.out w.heap.size w2 ps pa 0 s HVR.out hs)
  go_wp2_with fail
  refine HCC.out.mono ?_
  rintro e w3 ⟨k, nm, n, A, na, ac, ok, j5, rfl, hv3, hg3, hcase⟩
  have hw2 := B2.out.size
  have hz3 : Whole1 w3 w.heap.size 50 #[.int .i64 0, .string ⟨#[]⟩, .int .i64 0, .slice none 0 0] := Z2.out.grownO hg3 (by omega)
  have hy3 := Y2.out.grownO hg3 (by omega)
  have hB3 : Below w.heap.size w w3 := grown_lowO B2.out hg3 (by omega)
  have hw23 := hg3.size
  obtain ⟨hb4, x4, hs4⟩ := boxes1 w3 50 #[.int .i64 k, .string nm, .int .i64 n, .slice A na ac]
  have HZ4 := Lib.hid (hz3.below hb4 hz3.lt)
  have HY4 := Lib.hid (hy3.below hb4 hy3.lt)
  have HV4 := Lib.hid (hv3.keep hb4)
  have HB4 := Lib.hid (hB3.trans (hb4.mono hB3.size))
  have HX4 : Hid (Whole1 (w3.alloc (.cells #[.int .i64 k, .string nm, .int .i64 n, .slice A na ac] 50)) w3.heap.size 50 #[.int .i64 k, .string nm, .int .i64 n, .slice A na ac]) := Lib.hid x4
  have HC : Hid ((ok = false ∧ rdOi 10 (restOf s 0) = none) ∨ ok = true ∧ ∃ t, rdOi 10 (restOf s 0) = some (t, restOf s j5) ∧ OwnOt (w3.alloc (.cells #[.int .i64 k, .string nm, .int .i64 n, .slice A na ac] 50)) w2.heap.size (.agg #[.int .i64 k, .string nm, .int .i64 n, .slice A na ac]) t) := Lib.hid (hcase.imp id fun ⟨h1, t, h2, h5⟩ => ⟨h1, t, h2, h5.keep hb4.size fun g _ hl => hb4.block g hl⟩)
  have hj5 := hv3.rd.le
  clear hz3 hv3 hB3 hb4 x4 hcase hg3 hy3 b0 b1 b2
  go_upto_region 3 with fail
  have HS4 := Lib.hid hs4
  clear hs4
  generalize w3.alloc (.cells #[.int .i64 k, .string nm, .int .i64 n, .slice A na ac] 50) = w4 at *
  have d0 : w4.cell? ⟨w.heap.size, 0, none⟩ = some (.int .i64 0) := HZ4.out.cell 0
  have d1 : w4.cell? ⟨w.heap.size, 1, none⟩ = some (.string ⟨#[]⟩) := HZ4.out.cell 1
  have d2 : w4.cell? ⟨w.heap.size, 2, none⟩ = some (.int .i64 0) := HZ4.out.cell 2
  have d3 : w4.cell? ⟨w.heap.size, 3, none⟩ = some (.slice none 0 0) := HZ4.out.cell 3
  have f0 : w4.frozen? ⟨w.heap.size, 0, none⟩ = false := HZ4.out.free 0
  have f1 : w4.frozen? ⟨w.heap.size, 1, none⟩ = false := HZ4.out.free 1
  have f2 : w4.frozen? ⟨w.heap.size, 2, none⟩ = false := HZ4.out.free 2
  have f3 : w4.frozen? ⟨w.heap.size, 3, none⟩ = false := HZ4.out.free 3
  have BAD : Hid (∀ W : World, Below w.heap.size w W → parseOB s = none → ParsePostO s w (.returned (.tuple #[.agg #[.int .i64 0, .string ⟨#[]⟩, .int .i64 0, .slice none 0 0], .bool false])) W) := Lib.hid fun W hW hno => ⟨_, by rw [hno]; rfl, by rw [hno]; exact ozero_in _ _, hW⟩
  cases ok with
  | false =>
    have HNO : Hid (parseOB s = none) := Lib.hid (by
      rcases HC.out with ⟨_, h⟩ | ⟨h, _⟩
      · exact parseO_no h
      · cases h)
    clear HC
    go_wp2
    exact bodyPost_ret (v := .tuple #[.agg #[.int .i64 0, .string ⟨#[]⟩, .int .i64 0, .slice none 0 0], .bool false]) (by simp [results, Tryd.results28, go_sem, d0, d1, d2, d3]) rfl (BAD.out _ (HB4.out.trans (oset4_below _ _ _ _ _ _)) HNO.out)
  | true =>
    obtain ⟨t, hx, hown⟩ : ∃ t, rdOi 10 (restOf s 0) = some (t, restOf s j5) ∧ OwnOt w4 w2.heap.size (.agg #[.int .i64 k, .string nm, .int .i64 n, .slice A na ac]) t := by
      rcases HC.out with ⟨h, _⟩ | ⟨_, h⟩
      · cases h
      · exact h
    have HX := Lib.hid hx
    have HI4 := Lib.hid hown.owned
    have hszv : sizeOt t ≤ 2000000 := by
      obtain ⟨h1, h2⟩ := rdOi_sound 10 _ _ _ hx
      have h3 := congrArg List.length h1
      have h4 := size_le_szO t
      rw [List.length_append, restOf_len] at h3
      omega
    have HNB := Lib.hid hszv
    clear HC hx hown hszv
    have y2 : w4.cell? ⟨y1, 2, none⟩ = some (rdEnd ps pa) := HY4.out.cell 2
    have x0 : w4.cell? ⟨w3.heap.size, 0, none⟩ = some (.int .i64 k) := HX4.out.cell 0
    have x1 : w4.cell? ⟨w3.heap.size, 1, none⟩ = some (.string nm) := HX4.out.cell 1
    have x2 : w4.cell? ⟨w3.heap.size, 2, none⟩ = some (.int .i64 n) := HX4.out.cell 2
    have x3 : w4.cell? ⟨w3.heap.size, 3, none⟩ = some (.slice A na ac) := HX4.out.cell 3
    have hE := end_any ps pa j5 s w4 HV4.out.rd
    by_cases hj : j5 = s.size
    · rw [decide_eq_true hj] at hE
      have HE := Lib.hid hE
      have HX2 : Hid (rdOi 10 (restOf s 0) = some (t, [])) := Lib.hid (by rw [HX.out, restOf_end s _ (by omega)])
      have hOT : OwnO w4 (.agg #[.int .i64 k, .string nm, .int .i64 n, .slice A na ac]) t := OwnO.of HI4.out
      have HVT := Lib.hid (HV.out t _ w4 hOT HNB.out)
      clear hE hOT HX
      go_wp2_with fail
      refine HE.out.mono ?_
      rintro e w4' ⟨rfl, rfl⟩
      go_wp2_with fail
      refine HVT.out.mono ?_
      rintro e w5 ⟨rfl, hb5⟩
      have z5 := HZ4.out.below hb5 HZ4.out.lt
      have hB5 := Lib.hid (HB4.out.trans (hb5.mono HB4.out.size))
      have hX5 := HX4.out.below hb5 HX4.out.lt
      have HI5 := Lib.hid (HI4.out.keep fun b hb hl => hb5.block b hl)
      have hz5 := hb5.size
      have hw34 := HX4.out.lt
      clear d0 d1 d2 d3 f0 f1 f2 f3
      have q0 : w5.cell? ⟨w3.heap.size, 0, none⟩ = some (.int .i64 k) := hX5.cell 0
      have q1 : w5.cell? ⟨w3.heap.size, 1, none⟩ = some (.string nm) := hX5.cell 1
      have q2 : w5.cell? ⟨w3.heap.size, 2, none⟩ = some (.int .i64 n) := hX5.cell 2
      have q3 : w5.cell? ⟨w3.heap.size, 3, none⟩ = some (.slice A na ac) := hX5.cell 3
      have d0 : w5.cell? ⟨w.heap.size, 0, none⟩ = some (.int .i64 0) := z5.cell 0
      have d1 : w5.cell? ⟨w.heap.size, 1, none⟩ = some (.string ⟨#[]⟩) := z5.cell 1
      have d2 : w5.cell? ⟨w.heap.size, 2, none⟩ = some (.int .i64 0) := z5.cell 2
      have d3 : w5.cell? ⟨w.heap.size, 3, none⟩ = some (.slice none 0 0) := z5.cell 3
      have f0 : w5.frozen? ⟨w.heap.size, 0, none⟩ = false := z5.free 0
      have f1 : w5.frozen? ⟨w.heap.size, 1, none⟩ = false := z5.free 1
      have f2 : w5.frozen? ⟨w.heap.size, 2, none⟩ = false := z5.free 2
      have f3 : w5.frozen? ⟨w.heap.size, 3, none⟩ = false := z5.free 3
      clear z5 hb5 hX5 x0 x1 x2 x3 y2
      cases hvb : opticB t
      · have HNO : Hid (parseOB s = none) := Lib.hid (by rw [parseO_here HX2.out, hvb]; rfl)
        clear hvb
        go_wp2
        exact bodyPost_ret (v := .tuple #[.agg #[.int .i64 0, .string ⟨#[]⟩, .int .i64 0, .slice none 0 0], .bool false]) (by simp [results, Tryd.results28, go_sem, d0, d1, d2, d3]) rfl (BAD.out _ (hB5.out.trans (oset4_below _ _ _ _ _ _)) HNO.out)
      · have HYES : Hid (parseOB s = some t) := Lib.hid (by rw [parseO_here HX2.out, hvb]; rfl)
        clear hvb BAD
        go_wp2
        exact bodyPost_ret (v := .tuple #[.agg #[.int .i64 k, .string nm, .int .i64 n, .slice A na ac], .bool true]) (by simp [results, Tryd.results28, go_sem, d0, d1, d2, d3]) rfl (⟨_, by rw [HYES.out]; rfl, by rw [HYES.out]; exact oIn_set4 HI5.out (by omega) (by omega) _ _ _ _, hB5.out.trans (oset4_below _ _ _ _ _ _)⟩)
    · rw [decide_eq_false hj] at hE
      have HE := Lib.hid hE
      have HNO : Hid (parseOB s = none) := Lib.hid (parseO_more HX.out (fun e => by
        have := congrArg List.length e
        rw [restOf_len] at this
        simp at this
        omega))
      clear hE x0 x1 x2 x3
      go_wp2_with fail
      refine HE.out.mono ?_
      rintro e w4' ⟨rfl, rfl⟩
      go_wp2
      exact bodyPost_ret (v := .tuple #[.agg #[.int .i64 0, .string ⟨#[]⟩, .int .i64 0, .slice none 0 0], .bool false]) (by simp [results, Tryd.results28, go_sem, d0, d1, d2, d3]) rfl (BAD.out _ (HB4.out.trans (oset4_below _ _ _ _ _ _)) HNO.out)

end Go.Proofs.YtlmbnefoobameaaDoor
end
