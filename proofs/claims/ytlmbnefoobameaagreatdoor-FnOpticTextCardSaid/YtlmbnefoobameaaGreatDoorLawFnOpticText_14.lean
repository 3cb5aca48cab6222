/- Lemmas: ROPair, ROWord, ROptic, ImplOParse. -/
import Derived.Test.YtlmbnefoobameaaGreatDoorLawFnOpticText_13
import Derived.Test.YtlmbnefoobameaaGreatDoorLawFnOpticText_12

section
namespace Go.Proofs.YtlmbnefoobameaaGreatDoor.OI
open Go Go.RowKit
attribute [local go_sem ↓] Go.wp_at_zero Go.wp_at_succ

theorem grown_undrewO {w w' : World} {p : Option Nat} (h : w.drew.grownBy w' p) : w.grownBy w' p := ⟨h.os, h.tape, h.output, h.size, h.block⟩
theorem oset4_cell (w : World) (r : Nat) (a b c d : Value) (g i : Nat) (hg : g ≠ r) : ((((w.setCell ⟨r, 0, none⟩ a).setCell ⟨r, 1, none⟩ b).setCell ⟨r, 2, none⟩ c).setCell ⟨r, 3, none⟩ d).cell? ⟨g, i, none⟩ = w.cell? ⟨g, i, none⟩ := by
  rw [World.cell?_setCell_far _ _ _ _ (fun e => hg e.symm), World.cell?_setCell_far _ _ _ _ (fun e => hg e.symm), World.cell?_setCell_far _ _ _ _ (fun e => hg e.symm), World.cell?_setCell_far _ _ _ _ (fun e => hg e.symm)]

set_option maxHeartbeats 16000000 in
set_option maxRecDepth 100000 in
theorem readPair_any (n : Nat) (d d' : Int) (hd : IntKind.i64.wrap (d - 1) = d') (H : ReadR n d') (B : Nat) (w : World) (ps pa j : Nat) (s : ByteArray) (hr : RO B w ps pa s j) (hs : s.size ≤ 1048576) :
    Calls Tryz.prog 42 #[rdv ps pa, .int .i64 d] w (PostR (rdTwo (rdOi n) (restOf s j)) B ps pa s w) := by
  have HH0 := Lib.hid (Hold.start hr)
  have HR := Lib.hid H
  have hsz0 : ((w.alloc (.cells #[rdAcc ps pa, rdTak ps pa, rdEnd ps pa] 41)).alloc (.cells #[.int .i64 0, .string ⟨#[]⟩, .int .i64 0, .slice none 0 0] 26)).heap.size = w.heap.size + 2 := by simp
  clear hr H
  go_enter Tryz.func42, Tryz.ntmps42
  go_upto_region 1 with fail
  generalize (w.alloc (.cells #[rdAcc ps pa, rdTak ps pa, rdEnd ps pa] 41)).alloc (.cells #[.int .i64 0, .string ⟨#[]⟩, .int .i64 0, .slice none 0 0] 26) = wa at *
  have b0 : wa.cell? ⟨w.heap.size, 0, none⟩ = some (rdAcc ps pa) := HH0.out.rdr.cell 0
  have b1 : wa.cell? ⟨w.heap.size, 1, none⟩ = some (rdTak ps pa) := HH0.out.rdr.cell 1
  have b2 : wa.cell? ⟨w.heap.size, 2, none⟩ = some (rdEnd ps pa) := HH0.out.rdr.cell 2
  have HC := Lib.hid (HR.out B wa ps pa j s HH0.out.rd hs)
  go_wp2_with fail
  refine HC.out.mono ?_
  rintro e w1 ⟨k1, nm1, n1, A1, m1, ac1, ok1, j1, rfl, hr1, hg1, hor1⟩
  have hH1 := HH0.out.read' hr1 hg1
  have hs1 := hg1.size
  obtain ⟨hb2, y2, hs2⟩ := boxes1 w1 26 #[.int .i64 k1, .string nm1, .int .i64 n1, .slice A1 m1 ac1]
  have HH2 := Lib.hid (hH1.keep hb2)
  have HOR1 := Lib.hid hor1
  have HY2 : Hid (Whole1 (w1.alloc (.cells #[.int .i64 k1, .string nm1, .int .i64 n1, .slice A1 m1 ac1] 26)) w1.heap.size 26 #[.int .i64 k1, .string nm1, .int .i64 n1, .slice A1 m1 ac1]) := Lib.hid y2
  have HK2 := Lib.hid hb2
  clear hr1 hg1 hor1 hH1 hb2 y2 b0 b1 b2
  go_upto_region 2 with fail
  generalize hy0 : w1.heap.size = y0 at *
  generalize w1.alloc (.cells #[.int .i64 k1, .string nm1, .int .i64 n1, .slice A1 m1 ac1] 26) = w2 at *
  rcases HOR1.out with ⟨rfl, hno⟩ | ⟨rfl, t, hyes, hO⟩
  · have HXF := Lib.hid (show rdTwo (rdOi n) (restOf s j) = none by rw [rdTwo, hno])
    clear hno HOR1
    have d0 : w2.cell? ⟨w.heap.size + 1, 0, none⟩ = some (.int .i64 0) := HH2.out.zero.cell 0
    have d1 : w2.cell? ⟨w.heap.size + 1, 1, none⟩ = some (.string ⟨#[]⟩) := HH2.out.zero.cell 1
    have d2 : w2.cell? ⟨w.heap.size + 1, 2, none⟩ = some (.int .i64 0) := HH2.out.zero.cell 2
    have d3 : w2.cell? ⟨w.heap.size + 1, 3, none⟩ = some (.slice none 0 0) := HH2.out.zero.cell 3
    have f0 : w2.frozen? ⟨w.heap.size + 1, 0, none⟩ = false := HH2.out.zero.free 0
    have f1 : w2.frozen? ⟨w.heap.size + 1, 1, none⟩ = false := HH2.out.zero.free 1
    have f2 : w2.frozen? ⟨w.heap.size + 1, 2, none⟩ = false := HH2.out.zero.free 2
    have f3 : w2.frozen? ⟨w.heap.size + 1, 3, none⟩ = false := HH2.out.zero.free 3
    go_wp2
    exact bodyPost_ret (v := .tuple #[.agg #[.int .i64 0, .string ⟨#[]⟩, .int .i64 0, .slice none 0 0], .bool false]) (by simp [results, Tryz.results42, go_sem, d0, d1, d2, d3]) rfl (HH2.out.no HXF.out 0 0 ⟨#[]⟩ none 0 0 _ _ _ _)
  · have HT := Lib.hid hyes
    have hI2 := hO.owned.keep (w' := w2) (fun g hg hl => HK2.out.block g (by have := (osp _ hg).2; omega))
    rw [hy0] at hI2
    have HI2 := Lib.hid hI2
    clear hI2
    clear hyes hO HOR1
    have b0 : w2.cell? ⟨w.heap.size, 0, none⟩ = some (rdAcc ps pa) := HH2.out.rdr.cell 0
    have b1 : w2.cell? ⟨w.heap.size, 1, none⟩ = some (rdTak ps pa) := HH2.out.rdr.cell 1
    have b2 : w2.cell? ⟨w.heap.size, 2, none⟩ = some (rdEnd ps pa) := HH2.out.rdr.cell 2
    have HS := Lib.hid (readSign_any B w2 ps pa j1 s HH2.out.rd hs)
    go_wp2_with fail
    refine HS.out.mono ?_
    rintro e w3 ⟨k2, ok2, j2, rfl, hr3, hg3, hor3⟩
    have HH3 := Lib.hid (HH2.out.read' hr3 hg3)
    have hs3 := hg3.size
    have hzr := HH2.out.zero.lt
    have hha := HH0.out.ha
    have HY3 := Lib.hid (HY2.out.grownO hg3 (by omega))
    have HI3 := Lib.hid (HI2.out.keep (w' := w3) (fun g hg hl => hg3.block g hl (fun e => by injection e with e; have := (osp _ hg).1; omega)))
    have HOR3 := Lib.hid hor3
    clear hr3 hg3 hor3 b0 b1 b2
    rcases HOR3.out with ⟨rfl, h59, h124⟩ | ⟨rfl, hk⟩
    · have HXF := Lib.hid (show rdTwo (rdOi n) (restOf s j) = none by rw [rdTwo, HT.out]; simp only [h59, h124])
      clear h59 h124 HOR3
      have d0 : w3.cell? ⟨w.heap.size + 1, 0, none⟩ = some (.int .i64 0) := HH3.out.zero.cell 0
      have d1 : w3.cell? ⟨w.heap.size + 1, 1, none⟩ = some (.string ⟨#[]⟩) := HH3.out.zero.cell 1
      have d2 : w3.cell? ⟨w.heap.size + 1, 2, none⟩ = some (.int .i64 0) := HH3.out.zero.cell 2
      have d3 : w3.cell? ⟨w.heap.size + 1, 3, none⟩ = some (.slice none 0 0) := HH3.out.zero.cell 3
      have f0 : w3.frozen? ⟨w.heap.size + 1, 0, none⟩ = false := HH3.out.zero.free 0
      have f1 : w3.frozen? ⟨w.heap.size + 1, 1, none⟩ = false := HH3.out.zero.free 1
      have f2 : w3.frozen? ⟨w.heap.size + 1, 2, none⟩ = false := HH3.out.zero.free 2
      have f3 : w3.frozen? ⟨w.heap.size + 1, 3, none⟩ = false := HH3.out.zero.free 3
      go_wp2
      exact bodyPost_ret (v := .tuple #[.agg #[.int .i64 0, .string ⟨#[]⟩, .int .i64 0, .slice none 0 0], .bool false]) (by simp [results, Tryz.results42, go_sem, d0, d1, d2, d3]) rfl (HH3.out.no HXF.out 0 0 ⟨#[]⟩ none 0 0 _ _ _ _)
    · have HX := Lib.hid (show rdTwo (rdOi n) (restOf s j) = rdLast (rdOi n) k2 t (restOf s j2) by
        rw [rdTwo, HT.out]
        rcases hk with ⟨rfl, h1⟩ | ⟨rfl, h1, h2⟩
        · simp only [h1]
        · simp only [h1, h2])
      clear hk HOR3
      have b0 : w3.cell? ⟨w.heap.size, 0, none⟩ = some (rdAcc ps pa) := HH3.out.rdr.cell 0
      have b1 : w3.cell? ⟨w.heap.size, 1, none⟩ = some (rdTak ps pa) := HH3.out.rdr.cell 1
      have b2 : w3.cell? ⟨w.heap.size, 2, none⟩ = some (rdEnd ps pa) := HH3.out.rdr.cell 2
      have HC4 := Lib.hid (HR.out B w3 ps pa j2 s HH3.out.rd hs)
      go_wp2_with fail
      refine HC4.out.mono ?_
      rintro e w4 ⟨k4, nm4, n4, A4, m4, ac4, ok4, j4, rfl, hr4, hg4, hor4⟩
      have hH4 := HH3.out.read' hr4 hg4
      have hs4 := hg4.size
      have hY4 := HY3.out.grownO hg4 (by omega)
      have hI4 := HI3.out.keep (w' := w4) (fun g hg hl => hg4.block g hl (fun e => by injection e with e; have := (osp _ hg).1; omega))
      obtain ⟨hb5, y5, hs5⟩ := boxes1 w4 26 #[.int .i64 k4, .string nm4, .int .i64 n4, .slice A4 m4 ac4]
      have HH5 := Lib.hid (hH4.keep hb5)
      have HOR4 := Lib.hid hor4
      have HY0 : Hid (Whole1 (w4.alloc (.cells #[.int .i64 k4, .string nm4, .int .i64 n4, .slice A4 m4 ac4] 26)) y0 26 #[.int .i64 k1, .string nm1, .int .i64 n1, .slice A1 m1 ac1]) := Lib.hid (hY4.below hb5 hY4.lt)
      have HY1 : Hid (Whole1 (w4.alloc (.cells #[.int .i64 k4, .string nm4, .int .i64 n4, .slice A4 m4 ac4] 26)) w4.heap.size 26 #[.int .i64 k4, .string nm4, .int .i64 n4, .slice A4 m4 ac4]) := Lib.hid y5
      have HIA := Lib.hid (hI4.keep (w' := w4.alloc (.cells #[.int .i64 k4, .string nm4, .int .i64 n4, .slice A4 m4 ac4] 26)) fun g hg hl => hb5.block g hl)
      have HK5 := Lib.hid hb5
      have hy0l := hY4.lt
      clear hr4 hg4 hor4 hH4 hb5 y5 hY4 hI4 b0 b1 b2
      go_upto_region 8 with fail
      generalize hy1 : w4.heap.size = y1 at *
      generalize w4.alloc (.cells #[.int .i64 k4, .string nm4, .int .i64 n4, .slice A4 m4 ac4] 26) = w5 at *
      have hha5 := HH5.out.ha
      have hn0 : y0 ≠ w.heap.size + 1 := by omega
      have hn1 : y1 ≠ w.heap.size + 1 := by omega
      have hn2 : w.heap.size ≠ w.heap.size + 1 := by omega
      have hp0 : y0 ≠ pa := by omega
      have hp1 : y1 ≠ pa := by omega
      have q0 : w5.cell? ⟨y0, 0, none⟩ = some (.int .i64 k1) := HY0.out.cell 0
      have q1 : w5.cell? ⟨y0, 1, none⟩ = some (.string nm1) := HY0.out.cell 1
      have q2 : w5.cell? ⟨y0, 2, none⟩ = some (.int .i64 n1) := HY0.out.cell 2
      have q3 : w5.cell? ⟨y0, 3, none⟩ = some (.slice A1 m1 ac1) := HY0.out.cell 3
      have q4 : w5.cell? ⟨y1, 0, none⟩ = some (.int .i64 k4) := HY1.out.cell 0
      have q5 : w5.cell? ⟨y1, 1, none⟩ = some (.string nm4) := HY1.out.cell 1
      have q6 : w5.cell? ⟨y1, 2, none⟩ = some (.int .i64 n4) := HY1.out.cell 2
      have q7 : w5.cell? ⟨y1, 3, none⟩ = some (.slice A4 m4 ac4) := HY1.out.cell 3
      have q8 : w5.cell? ⟨w.heap.size, 0, none⟩ = some (rdAcc ps pa) := HH5.out.rdr.cell 0
      have hba := (Below.refl w5.heap.size w5).alloc (Nat.le_refl _) (.cells #[.int .i64 k1, .string nm1, .int .i64 n1, .slice A1 m1 ac1, .int .i64 k4, .string nm4, .int .i64 n4, .slice A4 m4 ac4] 26)
      have HHa := Lib.hid (HH5.out.keep hba)
      have HYa := Lib.hid (HY0.out.below hba HY0.out.lt)
      have HYb := Lib.hid (HY1.out.below hba HY1.out.lt)
      clear hba
      rcases HOR4.out with ⟨rfl, hno⟩ | ⟨rfl, u, hyes, hO⟩
      · have HXF := Lib.hid (show rdTwo (rdOi n) (restOf s j) = none by rw [HX.out, rdLast, hno])
        have HHd := Lib.hid HHa.out.drew
        clear hno HOR4
        have d0 : (w5.alloc (.cells #[.int .i64 k1, .string nm1, .int .i64 n1, .slice A1 m1 ac1, .int .i64 k4, .string nm4, .int .i64 n4, .slice A4 m4 ac4] 26)).cell? ⟨w.heap.size + 1, 0, none⟩ = some (.int .i64 0) := HHa.out.zero.cell 0
        have d1 : (w5.alloc (.cells #[.int .i64 k1, .string nm1, .int .i64 n1, .slice A1 m1 ac1, .int .i64 k4, .string nm4, .int .i64 n4, .slice A4 m4 ac4] 26)).cell? ⟨w.heap.size + 1, 1, none⟩ = some (.string ⟨#[]⟩) := HHa.out.zero.cell 1
        have d2 : (w5.alloc (.cells #[.int .i64 k1, .string nm1, .int .i64 n1, .slice A1 m1 ac1, .int .i64 k4, .string nm4, .int .i64 n4, .slice A4 m4 ac4] 26)).cell? ⟨w.heap.size + 1, 2, none⟩ = some (.int .i64 0) := HHa.out.zero.cell 2
        have d3 : (w5.alloc (.cells #[.int .i64 k1, .string nm1, .int .i64 n1, .slice A1 m1 ac1, .int .i64 k4, .string nm4, .int .i64 n4, .slice A4 m4 ac4] 26)).cell? ⟨w.heap.size + 1, 3, none⟩ = some (.slice none 0 0) := HHa.out.zero.cell 3
        have f0 : (w5.alloc (.cells #[.int .i64 k1, .string nm1, .int .i64 n1, .slice A1 m1 ac1, .int .i64 k4, .string nm4, .int .i64 n4, .slice A4 m4 ac4] 26)).frozen? ⟨w.heap.size + 1, 0, none⟩ = false := HHa.out.zero.free 0
        have f1 : (w5.alloc (.cells #[.int .i64 k1, .string nm1, .int .i64 n1, .slice A1 m1 ac1, .int .i64 k4, .string nm4, .int .i64 n4, .slice A4 m4 ac4] 26)).frozen? ⟨w.heap.size + 1, 1, none⟩ = false := HHa.out.zero.free 1
        have f2 : (w5.alloc (.cells #[.int .i64 k1, .string nm1, .int .i64 n1, .slice A1 m1 ac1, .int .i64 k4, .string nm4, .int .i64 n4, .slice A4 m4 ac4] 26)).frozen? ⟨w.heap.size + 1, 2, none⟩ = false := HHa.out.zero.free 2
        have f3 : (w5.alloc (.cells #[.int .i64 k1, .string nm1, .int .i64 n1, .slice A1 m1 ac1, .int .i64 k4, .string nm4, .int .i64 n4, .slice A4 m4 ac4] 26)).frozen? ⟨w.heap.size + 1, 3, none⟩ = false := HHa.out.zero.free 3
        have qa0 : (w5.alloc (.cells #[.int .i64 k1, .string nm1, .int .i64 n1, .slice A1 m1 ac1, .int .i64 k4, .string nm4, .int .i64 n4, .slice A4 m4 ac4] 26)).cell? ⟨y0, 0, none⟩ = some (.int .i64 k1) := HYa.out.cell 0
        have qa1 : (w5.alloc (.cells #[.int .i64 k1, .string nm1, .int .i64 n1, .slice A1 m1 ac1, .int .i64 k4, .string nm4, .int .i64 n4, .slice A4 m4 ac4] 26)).cell? ⟨y0, 1, none⟩ = some (.string nm1) := HYa.out.cell 1
        have qa2 : (w5.alloc (.cells #[.int .i64 k1, .string nm1, .int .i64 n1, .slice A1 m1 ac1, .int .i64 k4, .string nm4, .int .i64 n4, .slice A4 m4 ac4] 26)).cell? ⟨y0, 2, none⟩ = some (.int .i64 n1) := HYa.out.cell 2
        have qa3 : (w5.alloc (.cells #[.int .i64 k1, .string nm1, .int .i64 n1, .slice A1 m1 ac1, .int .i64 k4, .string nm4, .int .i64 n4, .slice A4 m4 ac4] 26)).cell? ⟨y0, 3, none⟩ = some (.slice A1 m1 ac1) := HYa.out.cell 3
        have qa4 : (w5.alloc (.cells #[.int .i64 k1, .string nm1, .int .i64 n1, .slice A1 m1 ac1, .int .i64 k4, .string nm4, .int .i64 n4, .slice A4 m4 ac4] 26)).cell? ⟨y1, 0, none⟩ = some (.int .i64 k4) := HYb.out.cell 0
        have qa5 : (w5.alloc (.cells #[.int .i64 k1, .string nm1, .int .i64 n1, .slice A1 m1 ac1, .int .i64 k4, .string nm4, .int .i64 n4, .slice A4 m4 ac4] 26)).cell? ⟨y1, 1, none⟩ = some (.string nm4) := HYb.out.cell 1
        have qa6 : (w5.alloc (.cells #[.int .i64 k1, .string nm1, .int .i64 n1, .slice A1 m1 ac1, .int .i64 k4, .string nm4, .int .i64 n4, .slice A4 m4 ac4] 26)).cell? ⟨y1, 2, none⟩ = some (.int .i64 n4) := HYb.out.cell 2
        have qa7 : (w5.alloc (.cells #[.int .i64 k1, .string nm1, .int .i64 n1, .slice A1 m1 ac1, .int .i64 k4, .string nm4, .int .i64 n4, .slice A4 m4 ac4] 26)).cell? ⟨y1, 3, none⟩ = some (.slice A4 m4 ac4) := HYb.out.cell 3
        have qa8 : (w5.alloc (.cells #[.int .i64 k1, .string nm1, .int .i64 n1, .slice A1 m1 ac1, .int .i64 k4, .string nm4, .int .i64 n4, .slice A4 m4 ac4] 26)).cell? ⟨w.heap.size, 0, none⟩ = some (rdAcc ps pa) := HHa.out.rdr.cell 0
        go_region
        all_goals go_wp2
        all_goals exact bodyPost_ret (v := .tuple #[.agg #[.int .i64 k2, .string ⟨#[]⟩, .int .i64 0, .slice (some ⟨w5.heap.size, 0, none⟩) 2 2], .bool false]) (by simp [results, Tryz.results42, go_sem, d0, d1, d2, d3]) rfl (HHd.out.no HXF.out k2 0 ⟨#[]⟩ _ 2 2 _ _ _ _)
      · have HU := Lib.hid hyes
        have hIB := hO.owned.keep (w' := w5) (fun g hg hl => HK5.out.block g (by have := (osp _ hg).2; omega))
        rw [hy1] at hIB
        have HIB := Lib.hid hIB
        clear hIB
        clear hyes hO HOR4
        have HOA := Lib.hid (own_otwo (w1 := w5) (base := w.heap.size + 2) k2 0 ⟨#[]⟩ (Nat.zero_le _) (lo0 := wa.heap.size) (hi0 := y0) (lo1 := w3.heap.size) (hi1 := y1) (by omega) (by omega) (by omega) (by omega) (by omega) (by omega) HIA.out HIB.out)
        have qa0 : (w5.alloc (.cells #[.int .i64 k1, .string nm1, .int .i64 n1, .slice A1 m1 ac1, .int .i64 k4, .string nm4, .int .i64 n4, .slice A4 m4 ac4] 26)).cell? ⟨y0, 0, none⟩ = some (.int .i64 k1) := HYa.out.cell 0
        have qa1 : (w5.alloc (.cells #[.int .i64 k1, .string nm1, .int .i64 n1, .slice A1 m1 ac1, .int .i64 k4, .string nm4, .int .i64 n4, .slice A4 m4 ac4] 26)).cell? ⟨y0, 1, none⟩ = some (.string nm1) := HYa.out.cell 1
        have qa2 : (w5.alloc (.cells #[.int .i64 k1, .string nm1, .int .i64 n1, .slice A1 m1 ac1, .int .i64 k4, .string nm4, .int .i64 n4, .slice A4 m4 ac4] 26)).cell? ⟨y0, 2, none⟩ = some (.int .i64 n1) := HYa.out.cell 2
        have qa3 : (w5.alloc (.cells #[.int .i64 k1, .string nm1, .int .i64 n1, .slice A1 m1 ac1, .int .i64 k4, .string nm4, .int .i64 n4, .slice A4 m4 ac4] 26)).cell? ⟨y0, 3, none⟩ = some (.slice A1 m1 ac1) := HYa.out.cell 3
        have qa4 : (w5.alloc (.cells #[.int .i64 k1, .string nm1, .int .i64 n1, .slice A1 m1 ac1, .int .i64 k4, .string nm4, .int .i64 n4, .slice A4 m4 ac4] 26)).cell? ⟨y1, 0, none⟩ = some (.int .i64 k4) := HYb.out.cell 0
        have qa5 : (w5.alloc (.cells #[.int .i64 k1, .string nm1, .int .i64 n1, .slice A1 m1 ac1, .int .i64 k4, .string nm4, .int .i64 n4, .slice A4 m4 ac4] 26)).cell? ⟨y1, 1, none⟩ = some (.string nm4) := HYb.out.cell 1
        have qa6 : (w5.alloc (.cells #[.int .i64 k1, .string nm1, .int .i64 n1, .slice A1 m1 ac1, .int .i64 k4, .string nm4, .int .i64 n4, .slice A4 m4 ac4] 26)).cell? ⟨y1, 2, none⟩ = some (.int .i64 n4) := HYb.out.cell 2
        have qa7 : (w5.alloc (.cells #[.int .i64 k1, .string nm1, .int .i64 n1, .slice A1 m1 ac1, .int .i64 k4, .string nm4, .int .i64 n4, .slice A4 m4 ac4] 26)).cell? ⟨y1, 3, none⟩ = some (.slice A4 m4 ac4) := HYb.out.cell 3
        have qa8 : (w5.alloc (.cells #[.int .i64 k1, .string nm1, .int .i64 n1, .slice A1 m1 ac1, .int .i64 k4, .string nm4, .int .i64 n4, .slice A4 m4 ac4] 26)).cell? ⟨w.heap.size, 0, none⟩ = some (rdAcc ps pa) := HHa.out.rdr.cell 0
        have qd0 : w5.drew.cell? ⟨y0, 0, none⟩ = some (.int .i64 k1) := q0
        have qd1 : w5.drew.cell? ⟨y0, 1, none⟩ = some (.string nm1) := q1
        have qd2 : w5.drew.cell? ⟨y0, 2, none⟩ = some (.int .i64 n1) := q2
        have qd3 : w5.drew.cell? ⟨y0, 3, none⟩ = some (.slice A1 m1 ac1) := q3
        have qd4 : w5.drew.cell? ⟨y1, 0, none⟩ = some (.int .i64 k4) := q4
        have qd5 : w5.drew.cell? ⟨y1, 1, none⟩ = some (.string nm4) := q5
        have qd6 : w5.drew.cell? ⟨y1, 2, none⟩ = some (.int .i64 n4) := q6
        have qd7 : w5.drew.cell? ⟨y1, 3, none⟩ = some (.slice A4 m4 ac4) := q7
        have qd8 : w5.drew.cell? ⟨w.heap.size, 0, none⟩ = some (rdAcc ps pa) := q8
        have qe0 : (w5.alloc (.cells #[.int .i64 k1, .string nm1, .int .i64 n1, .slice A1 m1 ac1, .int .i64 k4, .string nm4, .int .i64 n4, .slice A4 m4 ac4] 26)).drew.cell? ⟨y0, 0, none⟩ = some (.int .i64 k1) := qa0
        have qe1 : (w5.alloc (.cells #[.int .i64 k1, .string nm1, .int .i64 n1, .slice A1 m1 ac1, .int .i64 k4, .string nm4, .int .i64 n4, .slice A4 m4 ac4] 26)).drew.cell? ⟨y0, 1, none⟩ = some (.string nm1) := qa1
        have qe2 : (w5.alloc (.cells #[.int .i64 k1, .string nm1, .int .i64 n1, .slice A1 m1 ac1, .int .i64 k4, .string nm4, .int .i64 n4, .slice A4 m4 ac4] 26)).drew.cell? ⟨y0, 2, none⟩ = some (.int .i64 n1) := qa2
        have qe3 : (w5.alloc (.cells #[.int .i64 k1, .string nm1, .int .i64 n1, .slice A1 m1 ac1, .int .i64 k4, .string nm4, .int .i64 n4, .slice A4 m4 ac4] 26)).drew.cell? ⟨y0, 3, none⟩ = some (.slice A1 m1 ac1) := qa3
        have qe4 : (w5.alloc (.cells #[.int .i64 k1, .string nm1, .int .i64 n1, .slice A1 m1 ac1, .int .i64 k4, .string nm4, .int .i64 n4, .slice A4 m4 ac4] 26)).drew.cell? ⟨y1, 0, none⟩ = some (.int .i64 k4) := qa4
        have qe5 : (w5.alloc (.cells #[.int .i64 k1, .string nm1, .int .i64 n1, .slice A1 m1 ac1, .int .i64 k4, .string nm4, .int .i64 n4, .slice A4 m4 ac4] 26)).drew.cell? ⟨y1, 1, none⟩ = some (.string nm4) := qa5
        have qe6 : (w5.alloc (.cells #[.int .i64 k1, .string nm1, .int .i64 n1, .slice A1 m1 ac1, .int .i64 k4, .string nm4, .int .i64 n4, .slice A4 m4 ac4] 26)).drew.cell? ⟨y1, 2, none⟩ = some (.int .i64 n4) := qa6
        have qe7 : (w5.alloc (.cells #[.int .i64 k1, .string nm1, .int .i64 n1, .slice A1 m1 ac1, .int .i64 k4, .string nm4, .int .i64 n4, .slice A4 m4 ac4] 26)).drew.cell? ⟨y1, 3, none⟩ = some (.slice A4 m4 ac4) := qa7
        have qe8 : (w5.alloc (.cells #[.int .i64 k1, .string nm1, .int .i64 n1, .slice A1 m1 ac1, .int .i64 k4, .string nm4, .int .i64 n4, .slice A4 m4 ac4] 26)).drew.cell? ⟨w.heap.size, 0, none⟩ = some (rdAcc ps pa) := qa8
        cases h41 : eat 41 (restOf s j4) with
        | some q5 =>
          have h41' := (eats_one 41 _).trans h41
          obtain ⟨hle5, rfl⟩ := eats_rest (p := ⟨#[41]⟩) HH5.out.rd.rd.le h41'
          have HA1 := Lib.hid (accE_yes ps pa j4 s ⟨#[41]⟩ _ w5.drew (HH5.out.rd.rd.drewN 1) hs h41')
          have HA2 := Lib.hid (accE_yes ps pa j4 s ⟨#[41]⟩ _ (w5.alloc (.cells #[.int .i64 k1, .string nm1, .int .i64 n1, .slice A1 m1 ac1, .int .i64 k4, .string nm4, .int .i64 n4, .slice A4 m4 ac4] 26)).drew (HHa.out.rd.rd.drewN 1) hs h41')
          have HXF := Lib.hid (show rdTwo (rdOi n) (restOf s j) = some (.mk k2 0 ⟨#[]⟩ [t, u], restOf s (j4 + (⟨#[41]⟩ : ByteArray).size)) by rw [HX.out, rdLast, HU.out]; simp only [h41])
          clear h41 h41'
          generalize j4 + (⟨#[41]⟩ : ByteArray).size = j5 at *
          go_region_held3 (fun x' : World => x'.cell? ⟨y0, 0, none⟩ = some (.int .i64 k1) ∧ x'.cell? ⟨y0, 1, none⟩ = some (.string nm1) ∧ x'.cell? ⟨y0, 2, none⟩ = some (.int .i64 n1) ∧ x'.cell? ⟨y0, 3, none⟩ = some (.slice A1 m1 ac1) ∧ x'.cell? ⟨y1, 0, none⟩ = some (.int .i64 k4) ∧ x'.cell? ⟨y1, 1, none⟩ = some (.string nm4) ∧ x'.cell? ⟨y1, 2, none⟩ = some (.int .i64 n4) ∧ x'.cell? ⟨y1, 3, none⟩ = some (.slice A4 m4 ac4) ∧ x'.cell? ⟨w.heap.size, 0, none⟩ = some (rdAcc ps pa)) (first | with_reducible exact ⟨q0, q1, q2, q3, q4, q5, q6, q7, q8⟩ | with_reducible exact ⟨qd0, qd1, qd2, qd3, qd4, qd5, qd6, qd7, qd8⟩ | with_reducible exact ⟨qe0, qe1, qe2, qe3, qe4, qe5, qe6, qe7, qe8⟩ | with_reducible exact ⟨qa0, qa1, qa2, qa3, qa4, qa5, qa6, qa7, qa8⟩ | with_reducible exact ⟨kc0, kc1, kc2, kc3, kc4, kc5, kc6, kc7, kc8⟩ | with_reducible exact ⟨kz0, kz1, kz2, kz3, kz4, kz5, kz6, kz7, kz8⟩ | with_reducible exact ⟨(hs0 _ _ _ _ _).trans kc0, (hs0 _ _ _ _ _).trans kc1, (hs0 _ _ _ _ _).trans kc2, (hs0 _ _ _ _ _).trans kc3, (hs1 _ _ _ _ _).trans kc4, (hs1 _ _ _ _ _).trans kc5, (hs1 _ _ _ _ _).trans kc6, (hs1 _ _ _ _ _).trans kc7, (hs2 _ _ _ _ _).trans kc8⟩ | with_reducible exact ⟨(hs0 _ _ _ _ _).trans kz0, (hs0 _ _ _ _ _).trans kz1, (hs0 _ _ _ _ _).trans kz2, (hs0 _ _ _ _ _).trans kz3, (hs1 _ _ _ _ _).trans kz4, (hs1 _ _ _ _ _).trans kz5, (hs1 _ _ _ _ _).trans kz6, (hs1 _ _ _ _ _).trans kz7, (hs2 _ _ _ _ _).trans kz8⟩ | go_keep) (first | (go_simp; go_at_call 36; (with_reducible refine HA1.out.mono ?_); rintro e w6 ⟨rfl, hr6, hg6'⟩; have hg6 := grown_undrewO hg6'; have hs6 := hg6.size; have hH6 := HH5.out.read hr6 hg6; have hx6 := HY0.out.grownO hg6 hp0; have hy6 := HY1.out.grownO hg6 hp1; have kc0 : w6.cell? ⟨y0, 0, none⟩ = some (.int .i64 k1) := hx6.cell 0; have kc1 : w6.cell? ⟨y0, 1, none⟩ = some (.string nm1) := hx6.cell 1; have kc2 : w6.cell? ⟨y0, 2, none⟩ = some (.int .i64 n1) := hx6.cell 2; have kc3 : w6.cell? ⟨y0, 3, none⟩ = some (.slice A1 m1 ac1) := hx6.cell 3; have kc4 : w6.cell? ⟨y1, 0, none⟩ = some (.int .i64 k4) := hy6.cell 0; have kc5 : w6.cell? ⟨y1, 1, none⟩ = some (.string nm4) := hy6.cell 1; have kc6 : w6.cell? ⟨y1, 2, none⟩ = some (.int .i64 n4) := hy6.cell 2; have kc7 : w6.cell? ⟨y1, 3, none⟩ = some (.slice A4 m4 ac4) := hy6.cell 3; have kc8 : w6.cell? ⟨w.heap.size, 0, none⟩ = some (rdAcc ps pa) := hH6.rdr.cell 0; have hO7 := own_otwo (w1 := w6) (base := w.heap.size + 2) k2 0 ⟨#[]⟩ (Nat.zero_le _) (lo0 := wa.heap.size) (hi0 := y0) (lo1 := w3.heap.size) (hi1 := y1) (by omega) (by omega) (by omega) (by omega) (by omega) (by omega) (HIA.out.keep (w' := w6) (fun g hg hl => hg6.block g hl (fun e => by injection e with e; have := (osp _ hg).1; omega))) (HIB.out.keep (w' := w6) (fun g hg hl => hg6.block g hl (fun e => by injection e with e; have := (osp _ hg).1; omega))); have HO7 := Lib.hid hO7; clear hO7; have hb7 := (Below.refl w6.heap.size w6).alloc (Nat.le_refl _) (.cells #[.int .i64 k1, .string nm1, .int .i64 n1, .slice A1 m1 ac1, .int .i64 k4, .string nm4, .int .i64 n4, .slice A4 m4 ac4] 26); have hH7 := hH6.keep hb7; have hx7 := hx6.below hb7 hx6.lt; have hy7 := hy6.below hb7 hy6.lt; have kz0 : (w6.alloc (.cells #[.int .i64 k1, .string nm1, .int .i64 n1, .slice A1 m1 ac1, .int .i64 k4, .string nm4, .int .i64 n4, .slice A4 m4 ac4] 26)).cell? ⟨y0, 0, none⟩ = some (.int .i64 k1) := hx7.cell 0; have kz1 : (w6.alloc (.cells #[.int .i64 k1, .string nm1, .int .i64 n1, .slice A1 m1 ac1, .int .i64 k4, .string nm4, .int .i64 n4, .slice A4 m4 ac4] 26)).cell? ⟨y0, 1, none⟩ = some (.string nm1) := hx7.cell 1; have kz2 : (w6.alloc (.cells #[.int .i64 k1, .string nm1, .int .i64 n1, .slice A1 m1 ac1, .int .i64 k4, .string nm4, .int .i64 n4, .slice A4 m4 ac4] 26)).cell? ⟨y0, 2, none⟩ = some (.int .i64 n1) := hx7.cell 2; have kz3 : (w6.alloc (.cells #[.int .i64 k1, .string nm1, .int .i64 n1, .slice A1 m1 ac1, .int .i64 k4, .string nm4, .int .i64 n4, .slice A4 m4 ac4] 26)).cell? ⟨y0, 3, none⟩ = some (.slice A1 m1 ac1) := hx7.cell 3; have kz4 : (w6.alloc (.cells #[.int .i64 k1, .string nm1, .int .i64 n1, .slice A1 m1 ac1, .int .i64 k4, .string nm4, .int .i64 n4, .slice A4 m4 ac4] 26)).cell? ⟨y1, 0, none⟩ = some (.int .i64 k4) := hy7.cell 0; have kz5 : (w6.alloc (.cells #[.int .i64 k1, .string nm1, .int .i64 n1, .slice A1 m1 ac1, .int .i64 k4, .string nm4, .int .i64 n4, .slice A4 m4 ac4] 26)).cell? ⟨y1, 1, none⟩ = some (.string nm4) := hy7.cell 1; have kz6 : (w6.alloc (.cells #[.int .i64 k1, .string nm1, .int .i64 n1, .slice A1 m1 ac1, .int .i64 k4, .string nm4, .int .i64 n4, .slice A4 m4 ac4] 26)).cell? ⟨y1, 2, none⟩ = some (.int .i64 n4) := hy7.cell 2; have kz7 : (w6.alloc (.cells #[.int .i64 k1, .string nm1, .int .i64 n1, .slice A1 m1 ac1, .int .i64 k4, .string nm4, .int .i64 n4, .slice A4 m4 ac4] 26)).cell? ⟨y1, 3, none⟩ = some (.slice A4 m4 ac4) := hy7.cell 3; have kz8 : (w6.alloc (.cells #[.int .i64 k1, .string nm1, .int .i64 n1, .slice A1 m1 ac1, .int .i64 k4, .string nm4, .int .i64 n4, .slice A4 m4 ac4] 26)).cell? ⟨w.heap.size, 0, none⟩ = some (rdAcc ps pa) := hH7.rdr.cell 0; have d0 : (w6.alloc (.cells #[.int .i64 k1, .string nm1, .int .i64 n1, .slice A1 m1 ac1, .int .i64 k4, .string nm4, .int .i64 n4, .slice A4 m4 ac4] 26)).cell? ⟨w.heap.size + 1, 0, none⟩ = some (.int .i64 0) := hH7.zero.cell 0; have d1 : (w6.alloc (.cells #[.int .i64 k1, .string nm1, .int .i64 n1, .slice A1 m1 ac1, .int .i64 k4, .string nm4, .int .i64 n4, .slice A4 m4 ac4] 26)).cell? ⟨w.heap.size + 1, 1, none⟩ = some (.string ⟨#[]⟩) := hH7.zero.cell 1; have d2 : (w6.alloc (.cells #[.int .i64 k1, .string nm1, .int .i64 n1, .slice A1 m1 ac1, .int .i64 k4, .string nm4, .int .i64 n4, .slice A4 m4 ac4] 26)).cell? ⟨w.heap.size + 1, 2, none⟩ = some (.int .i64 0) := hH7.zero.cell 2; have d3 : (w6.alloc (.cells #[.int .i64 k1, .string nm1, .int .i64 n1, .slice A1 m1 ac1, .int .i64 k4, .string nm4, .int .i64 n4, .slice A4 m4 ac4] 26)).cell? ⟨w.heap.size + 1, 3, none⟩ = some (.slice none 0 0) := hH7.zero.cell 3; have f0 : (w6.alloc (.cells #[.int .i64 k1, .string nm1, .int .i64 n1, .slice A1 m1 ac1, .int .i64 k4, .string nm4, .int .i64 n4, .slice A4 m4 ac4] 26)).frozen? ⟨w.heap.size + 1, 0, none⟩ = false := hH7.zero.free 0; have f1 : (w6.alloc (.cells #[.int .i64 k1, .string nm1, .int .i64 n1, .slice A1 m1 ac1, .int .i64 k4, .string nm4, .int .i64 n4, .slice A4 m4 ac4] 26)).frozen? ⟨w.heap.size + 1, 1, none⟩ = false := hH7.zero.free 1; have f2 : (w6.alloc (.cells #[.int .i64 k1, .string nm1, .int .i64 n1, .slice A1 m1 ac1, .int .i64 k4, .string nm4, .int .i64 n4, .slice A4 m4 ac4] 26)).frozen? ⟨w.heap.size + 1, 2, none⟩ = false := hH7.zero.free 2; have f3 : (w6.alloc (.cells #[.int .i64 k1, .string nm1, .int .i64 n1, .slice A1 m1 ac1, .int .i64 k4, .string nm4, .int .i64 n4, .slice A4 m4 ac4] 26)).frozen? ⟨w.heap.size + 1, 3, none⟩ = false := hH7.zero.free 3; have hs0 := fun a b c d i => oset4_cell ((w6.alloc (.cells #[.int .i64 k1, .string nm1, .int .i64 n1, .slice A1 m1 ac1, .int .i64 k4, .string nm4, .int .i64 n4, .slice A4 m4 ac4] 26))) (w.heap.size + 1) a b c d y0 i hn0; have hs1 := fun a b c d i => oset4_cell ((w6.alloc (.cells #[.int .i64 k1, .string nm1, .int .i64 n1, .slice A1 m1 ac1, .int .i64 k4, .string nm4, .int .i64 n4, .slice A4 m4 ac4] 26))) (w.heap.size + 1) a b c d y1 i hn1; have hs2 := fun a b c d i => oset4_cell ((w6.alloc (.cells #[.int .i64 k1, .string nm1, .int .i64 n1, .slice A1 m1 ac1, .int .i64 k4, .string nm4, .int .i64 n4, .slice A4 m4 ac4] 26))) (w.heap.size + 1) a b c d w.heap.size i hn2; have HH7 := Lib.hid hH7; clear hr6 hg6 hg6' hH6 hx6 hy6 hb7 hH7 hx7 hy7) | (go_simp; go_at_call 36; (with_reducible refine HA2.out.mono ?_); rintro e w6 ⟨rfl, hr6, hg6'⟩; have hg6 := grown_undrewO hg6'; have hs6 := hg6.size; have hH6 := HHa.out.read hr6 hg6; have hx6 := HYa.out.grownO hg6 hp0; have hy6 := HYb.out.grownO hg6 hp1; have kc0 : w6.cell? ⟨y0, 0, none⟩ = some (.int .i64 k1) := hx6.cell 0; have kc1 : w6.cell? ⟨y0, 1, none⟩ = some (.string nm1) := hx6.cell 1; have kc2 : w6.cell? ⟨y0, 2, none⟩ = some (.int .i64 n1) := hx6.cell 2; have kc3 : w6.cell? ⟨y0, 3, none⟩ = some (.slice A1 m1 ac1) := hx6.cell 3; have kc4 : w6.cell? ⟨y1, 0, none⟩ = some (.int .i64 k4) := hy6.cell 0; have kc5 : w6.cell? ⟨y1, 1, none⟩ = some (.string nm4) := hy6.cell 1; have kc6 : w6.cell? ⟨y1, 2, none⟩ = some (.int .i64 n4) := hy6.cell 2; have kc7 : w6.cell? ⟨y1, 3, none⟩ = some (.slice A4 m4 ac4) := hy6.cell 3; have kc8 : w6.cell? ⟨w.heap.size, 0, none⟩ = some (rdAcc ps pa) := hH6.rdr.cell 0; have HO6 := Lib.hid (HOA.out.keep (w' := w6) hg6.size (fun g hg hl => hg6.block g hl (fun e => by injection e with e; omega))); have d0 : w6.cell? ⟨w.heap.size + 1, 0, none⟩ = some (.int .i64 0) := hH6.zero.cell 0; have d1 : w6.cell? ⟨w.heap.size + 1, 1, none⟩ = some (.string ⟨#[]⟩) := hH6.zero.cell 1; have d2 : w6.cell? ⟨w.heap.size + 1, 2, none⟩ = some (.int .i64 0) := hH6.zero.cell 2; have d3 : w6.cell? ⟨w.heap.size + 1, 3, none⟩ = some (.slice none 0 0) := hH6.zero.cell 3; have f0 : w6.frozen? ⟨w.heap.size + 1, 0, none⟩ = false := hH6.zero.free 0; have f1 : w6.frozen? ⟨w.heap.size + 1, 1, none⟩ = false := hH6.zero.free 1; have f2 : w6.frozen? ⟨w.heap.size + 1, 2, none⟩ = false := hH6.zero.free 2; have f3 : w6.frozen? ⟨w.heap.size + 1, 3, none⟩ = false := hH6.zero.free 3; have hs0 := fun a b c d i => oset4_cell (w6) (w.heap.size + 1) a b c d y0 i hn0; have hs1 := fun a b c d i => oset4_cell (w6) (w.heap.size + 1) a b c d y1 i hn1; have hs2 := fun a b c d i => oset4_cell (w6) (w.heap.size + 1) a b c d w.heap.size i hn2; have HH6 := Lib.hid hH6; clear hr6 hg6 hg6' hH6 hx6 hy6))
          all_goals go_wp2
          all_goals first
            | exact bodyPost_ret (v := .tuple #[.agg #[.int .i64 k2, .string ⟨#[]⟩, .int .i64 0, .slice (some ⟨w5.heap.size, 0, none⟩) 2 2], .bool true]) (by simp [results, Tryz.results42, go_sem, d0, d1, d2, d3]) rfl (HH6.out.yes HXF.out HO6.out _ _ _ _)
            | exact bodyPost_ret (v := .tuple #[.agg #[.int .i64 k2, .string ⟨#[]⟩, .int .i64 0, .slice (some ⟨w6.heap.size, 0, none⟩) 2 2], .bool true]) (by simp [results, Tryz.results42, go_sem, d0, d1, d2, d3]) rfl (HH7.out.yes HXF.out HO7.out _ _ _ _)
        | none =>
          have h41' := (eats_one 41 _).trans h41
          have HA1 := Lib.hid (accE_no ps pa j4 s ⟨#[41]⟩ w5.drew (HH5.out.rd.rd.drewN 1) h41')
          have HA2 := Lib.hid (accE_no ps pa j4 s ⟨#[41]⟩ (w5.alloc (.cells #[.int .i64 k1, .string nm1, .int .i64 n1, .slice A1 m1 ac1, .int .i64 k4, .string nm4, .int .i64 n4, .slice A4 m4 ac4] 26)).drew (HHa.out.rd.rd.drewN 1) h41')
          have HXF := Lib.hid (show rdTwo (rdOi n) (restOf s j) = none by rw [HX.out, rdLast, HU.out]; simp only [h41])
          clear h41 h41'
          go_region_held3 (fun x' : World => x'.cell? ⟨y0, 0, none⟩ = some (.int .i64 k1) ∧ x'.cell? ⟨y0, 1, none⟩ = some (.string nm1) ∧ x'.cell? ⟨y0, 2, none⟩ = some (.int .i64 n1) ∧ x'.cell? ⟨y0, 3, none⟩ = some (.slice A1 m1 ac1) ∧ x'.cell? ⟨y1, 0, none⟩ = some (.int .i64 k4) ∧ x'.cell? ⟨y1, 1, none⟩ = some (.string nm4) ∧ x'.cell? ⟨y1, 2, none⟩ = some (.int .i64 n4) ∧ x'.cell? ⟨y1, 3, none⟩ = some (.slice A4 m4 ac4) ∧ x'.cell? ⟨w.heap.size, 0, none⟩ = some (rdAcc ps pa)) (first | with_reducible exact ⟨q0, q1, q2, q3, q4, q5, q6, q7, q8⟩ | with_reducible exact ⟨qd0, qd1, qd2, qd3, qd4, qd5, qd6, qd7, qd8⟩ | with_reducible exact ⟨qe0, qe1, qe2, qe3, qe4, qe5, qe6, qe7, qe8⟩ | with_reducible exact ⟨qa0, qa1, qa2, qa3, qa4, qa5, qa6, qa7, qa8⟩ | with_reducible exact ⟨kc0, kc1, kc2, kc3, kc4, kc5, kc6, kc7, kc8⟩ | with_reducible exact ⟨kz0, kz1, kz2, kz3, kz4, kz5, kz6, kz7, kz8⟩ | with_reducible exact ⟨(hs0 _ _ _ _ _).trans kc0, (hs0 _ _ _ _ _).trans kc1, (hs0 _ _ _ _ _).trans kc2, (hs0 _ _ _ _ _).trans kc3, (hs1 _ _ _ _ _).trans kc4, (hs1 _ _ _ _ _).trans kc5, (hs1 _ _ _ _ _).trans kc6, (hs1 _ _ _ _ _).trans kc7, (hs2 _ _ _ _ _).trans kc8⟩ | with_reducible exact ⟨(hs0 _ _ _ _ _).trans kz0, (hs0 _ _ _ _ _).trans kz1, (hs0 _ _ _ _ _).trans kz2, (hs0 _ _ _ _ _).trans kz3, (hs1 _ _ _ _ _).trans kz4, (hs1 _ _ _ _ _).trans kz5, (hs1 _ _ _ _ _).trans kz6, (hs1 _ _ _ _ _).trans kz7, (hs2 _ _ _ _ _).trans kz8⟩ | go_keep) (first | (go_simp; go_at_call 36; (with_reducible refine HA1.out.mono ?_); rintro e w6 ⟨rfl, hr6, hg6'⟩; have hg6 := grown_undrewO hg6'; have hs6 := hg6.size; have hH6 := HH5.out.read hr6 hg6; have hx6 := HY0.out.grownO hg6 hp0; have hy6 := HY1.out.grownO hg6 hp1; have kc0 : w6.cell? ⟨y0, 0, none⟩ = some (.int .i64 k1) := hx6.cell 0; have kc1 : w6.cell? ⟨y0, 1, none⟩ = some (.string nm1) := hx6.cell 1; have kc2 : w6.cell? ⟨y0, 2, none⟩ = some (.int .i64 n1) := hx6.cell 2; have kc3 : w6.cell? ⟨y0, 3, none⟩ = some (.slice A1 m1 ac1) := hx6.cell 3; have kc4 : w6.cell? ⟨y1, 0, none⟩ = some (.int .i64 k4) := hy6.cell 0; have kc5 : w6.cell? ⟨y1, 1, none⟩ = some (.string nm4) := hy6.cell 1; have kc6 : w6.cell? ⟨y1, 2, none⟩ = some (.int .i64 n4) := hy6.cell 2; have kc7 : w6.cell? ⟨y1, 3, none⟩ = some (.slice A4 m4 ac4) := hy6.cell 3; have kc8 : w6.cell? ⟨w.heap.size, 0, none⟩ = some (rdAcc ps pa) := hH6.rdr.cell 0; have hb7 := (Below.refl w6.heap.size w6).alloc (Nat.le_refl _) (.cells #[.int .i64 k1, .string nm1, .int .i64 n1, .slice A1 m1 ac1, .int .i64 k4, .string nm4, .int .i64 n4, .slice A4 m4 ac4] 26); have hH7 := hH6.keep hb7; have hx7 := hx6.below hb7 hx6.lt; have hy7 := hy6.below hb7 hy6.lt; have kz0 : (w6.alloc (.cells #[.int .i64 k1, .string nm1, .int .i64 n1, .slice A1 m1 ac1, .int .i64 k4, .string nm4, .int .i64 n4, .slice A4 m4 ac4] 26)).cell? ⟨y0, 0, none⟩ = some (.int .i64 k1) := hx7.cell 0; have kz1 : (w6.alloc (.cells #[.int .i64 k1, .string nm1, .int .i64 n1, .slice A1 m1 ac1, .int .i64 k4, .string nm4, .int .i64 n4, .slice A4 m4 ac4] 26)).cell? ⟨y0, 1, none⟩ = some (.string nm1) := hx7.cell 1; have kz2 : (w6.alloc (.cells #[.int .i64 k1, .string nm1, .int .i64 n1, .slice A1 m1 ac1, .int .i64 k4, .string nm4, .int .i64 n4, .slice A4 m4 ac4] 26)).cell? ⟨y0, 2, none⟩ = some (.int .i64 n1) := hx7.cell 2; have kz3 : (w6.alloc (.cells #[.int .i64 k1, .string nm1, .int .i64 n1, .slice A1 m1 ac1, .int .i64 k4, .string nm4, .int .i64 n4, .slice A4 m4 ac4] 26)).cell? ⟨y0, 3, none⟩ = some (.slice A1 m1 ac1) := hx7.cell 3; have kz4 : (w6.alloc (.cells #[.int .i64 k1, .string nm1, .int .i64 n1, .slice A1 m1 ac1, .int .i64 k4, .string nm4, .int .i64 n4, .slice A4 m4 ac4] 26)).cell? ⟨y1, 0, none⟩ = some (.int .i64 k4) := hy7.cell 0; have kz5 : (w6.alloc (.cells #[.int .i64 k1, .string nm1, .int .i64 n1, .slice A1 m1 ac1, .int .i64 k4, .string nm4, .int .i64 n4, .slice A4 m4 ac4] 26)).cell? ⟨y1, 1, none⟩ = some (.string nm4) := hy7.cell 1; have kz6 : (w6.alloc (.cells #[.int .i64 k1, .string nm1, .int .i64 n1, .slice A1 m1 ac1, .int .i64 k4, .string nm4, .int .i64 n4, .slice A4 m4 ac4] 26)).cell? ⟨y1, 2, none⟩ = some (.int .i64 n4) := hy7.cell 2; have kz7 : (w6.alloc (.cells #[.int .i64 k1, .string nm1, .int .i64 n1, .slice A1 m1 ac1, .int .i64 k4, .string nm4, .int .i64 n4, .slice A4 m4 ac4] 26)).cell? ⟨y1, 3, none⟩ = some (.slice A4 m4 ac4) := hy7.cell 3; have kz8 : (w6.alloc (.cells #[.int .i64 k1, .string nm1, .int .i64 n1, .slice A1 m1 ac1, .int .i64 k4, .string nm4, .int .i64 n4, .slice A4 m4 ac4] 26)).cell? ⟨w.heap.size, 0, none⟩ = some (rdAcc ps pa) := hH7.rdr.cell 0; have d0 : (w6.alloc (.cells #[.int .i64 k1, .string nm1, .int .i64 n1, .slice A1 m1 ac1, .int .i64 k4, .string nm4, .int .i64 n4, .slice A4 m4 ac4] 26)).cell? ⟨w.heap.size + 1, 0, none⟩ = some (.int .i64 0) := hH7.zero.cell 0; have d1 : (w6.alloc (.cells #[.int .i64 k1, .string nm1, .int .i64 n1, .slice A1 m1 ac1, .int .i64 k4, .string nm4, .int .i64 n4, .slice A4 m4 ac4] 26)).cell? ⟨w.heap.size + 1, 1, none⟩ = some (.string ⟨#[]⟩) := hH7.zero.cell 1; have d2 : (w6.alloc (.cells #[.int .i64 k1, .string nm1, .int .i64 n1, .slice A1 m1 ac1, .int .i64 k4, .string nm4, .int .i64 n4, .slice A4 m4 ac4] 26)).cell? ⟨w.heap.size + 1, 2, none⟩ = some (.int .i64 0) := hH7.zero.cell 2; have d3 : (w6.alloc (.cells #[.int .i64 k1, .string nm1, .int .i64 n1, .slice A1 m1 ac1, .int .i64 k4, .string nm4, .int .i64 n4, .slice A4 m4 ac4] 26)).cell? ⟨w.heap.size + 1, 3, none⟩ = some (.slice none 0 0) := hH7.zero.cell 3; have f0 : (w6.alloc (.cells #[.int .i64 k1, .string nm1, .int .i64 n1, .slice A1 m1 ac1, .int .i64 k4, .string nm4, .int .i64 n4, .slice A4 m4 ac4] 26)).frozen? ⟨w.heap.size + 1, 0, none⟩ = false := hH7.zero.free 0; have f1 : (w6.alloc (.cells #[.int .i64 k1, .string nm1, .int .i64 n1, .slice A1 m1 ac1, .int .i64 k4, .string nm4, .int .i64 n4, .slice A4 m4 ac4] 26)).frozen? ⟨w.heap.size + 1, 1, none⟩ = false := hH7.zero.free 1; have f2 : (w6.alloc (.cells #[.int .i64 k1, .string nm1, .int .i64 n1, .slice A1 m1 ac1, .int .i64 k4, .string nm4, .int .i64 n4, .slice A4 m4 ac4] 26)).frozen? ⟨w.heap.size + 1, 2, none⟩ = false := hH7.zero.free 2; have f3 : (w6.alloc (.cells #[.int .i64 k1, .string nm1, .int .i64 n1, .slice A1 m1 ac1, .int .i64 k4, .string nm4, .int .i64 n4, .slice A4 m4 ac4] 26)).frozen? ⟨w.heap.size + 1, 3, none⟩ = false := hH7.zero.free 3; have hs0 := fun a b c d i => oset4_cell ((w6.alloc (.cells #[.int .i64 k1, .string nm1, .int .i64 n1, .slice A1 m1 ac1, .int .i64 k4, .string nm4, .int .i64 n4, .slice A4 m4 ac4] 26))) (w.heap.size + 1) a b c d y0 i hn0; have hs1 := fun a b c d i => oset4_cell ((w6.alloc (.cells #[.int .i64 k1, .string nm1, .int .i64 n1, .slice A1 m1 ac1, .int .i64 k4, .string nm4, .int .i64 n4, .slice A4 m4 ac4] 26))) (w.heap.size + 1) a b c d y1 i hn1; have hs2 := fun a b c d i => oset4_cell ((w6.alloc (.cells #[.int .i64 k1, .string nm1, .int .i64 n1, .slice A1 m1 ac1, .int .i64 k4, .string nm4, .int .i64 n4, .slice A4 m4 ac4] 26))) (w.heap.size + 1) a b c d w.heap.size i hn2; have HH7 := Lib.hid hH7; clear hr6 hg6 hg6' hH6 hx6 hy6 hb7 hH7 hx7 hy7) | (go_simp; go_at_call 36; (with_reducible refine HA2.out.mono ?_); rintro e w6 ⟨rfl, hr6, hg6'⟩; have hg6 := grown_undrewO hg6'; have hs6 := hg6.size; have hH6 := HHa.out.read hr6 hg6; have hx6 := HYa.out.grownO hg6 hp0; have hy6 := HYb.out.grownO hg6 hp1; have kc0 : w6.cell? ⟨y0, 0, none⟩ = some (.int .i64 k1) := hx6.cell 0; have kc1 : w6.cell? ⟨y0, 1, none⟩ = some (.string nm1) := hx6.cell 1; have kc2 : w6.cell? ⟨y0, 2, none⟩ = some (.int .i64 n1) := hx6.cell 2; have kc3 : w6.cell? ⟨y0, 3, none⟩ = some (.slice A1 m1 ac1) := hx6.cell 3; have kc4 : w6.cell? ⟨y1, 0, none⟩ = some (.int .i64 k4) := hy6.cell 0; have kc5 : w6.cell? ⟨y1, 1, none⟩ = some (.string nm4) := hy6.cell 1; have kc6 : w6.cell? ⟨y1, 2, none⟩ = some (.int .i64 n4) := hy6.cell 2; have kc7 : w6.cell? ⟨y1, 3, none⟩ = some (.slice A4 m4 ac4) := hy6.cell 3; have kc8 : w6.cell? ⟨w.heap.size, 0, none⟩ = some (rdAcc ps pa) := hH6.rdr.cell 0; have d0 : w6.cell? ⟨w.heap.size + 1, 0, none⟩ = some (.int .i64 0) := hH6.zero.cell 0; have d1 : w6.cell? ⟨w.heap.size + 1, 1, none⟩ = some (.string ⟨#[]⟩) := hH6.zero.cell 1; have d2 : w6.cell? ⟨w.heap.size + 1, 2, none⟩ = some (.int .i64 0) := hH6.zero.cell 2; have d3 : w6.cell? ⟨w.heap.size + 1, 3, none⟩ = some (.slice none 0 0) := hH6.zero.cell 3; have f0 : w6.frozen? ⟨w.heap.size + 1, 0, none⟩ = false := hH6.zero.free 0; have f1 : w6.frozen? ⟨w.heap.size + 1, 1, none⟩ = false := hH6.zero.free 1; have f2 : w6.frozen? ⟨w.heap.size + 1, 2, none⟩ = false := hH6.zero.free 2; have f3 : w6.frozen? ⟨w.heap.size + 1, 3, none⟩ = false := hH6.zero.free 3; have hs0 := fun a b c d i => oset4_cell (w6) (w.heap.size + 1) a b c d y0 i hn0; have hs1 := fun a b c d i => oset4_cell (w6) (w.heap.size + 1) a b c d y1 i hn1; have hs2 := fun a b c d i => oset4_cell (w6) (w.heap.size + 1) a b c d w.heap.size i hn2; have HH6 := Lib.hid hH6; clear hr6 hg6 hg6' hH6 hx6 hy6))
          all_goals go_wp2
          all_goals first
            | exact bodyPost_ret (v := .tuple #[.agg #[.int .i64 k2, .string ⟨#[]⟩, .int .i64 0, .slice (some ⟨w5.heap.size, 0, none⟩) 2 2], .bool false]) (by simp [results, Tryz.results42, go_sem, d0, d1, d2, d3]) rfl (HH6.out.no HXF.out k2 0 ⟨#[]⟩ _ 2 2 _ _ _ _)
            | exact bodyPost_ret (v := .tuple #[.agg #[.int .i64 k2, .string ⟨#[]⟩, .int .i64 0, .slice (some ⟨w6.heap.size, 0, none⟩) 2 2], .bool false]) (by simp [results, Tryz.results42, go_sem, d0, d1, d2, d3]) rfl (HH7.out.no HXF.out k2 0 ⟨#[]⟩ _ 2 2 _ _ _ _)

end Go.Proofs.YtlmbnefoobameaaGreatDoor.OI
end

section
namespace Go.Proofs.YtlmbnefoobameaaGreatDoor.OI
open Go Go.RowKit
attribute [local go_sem ↓] Go.wp_at_zero Go.wp_at_succ

set_option maxHeartbeats 16000000 in
set_option maxRecDepth 100000 in
theorem readWord_any (n : Nat) (d d' : Int) (hd : IntKind.i64.wrap (d - 1) = d') (H : ReadR n d') (B : Nat) (w : World) (ps pa j : Nat) (s : ByteArray) (hr : RO B w ps pa s j) (hs : s.size ≤ 1048576) :
    Calls Tryz.prog 44 #[rdv ps pa, .int .i64 d] w (PostR (rdWordO (rdOi n) ((restOf s j).takeWhile wordC) ((restOf s j).dropWhile wordC)) B ps pa s w) := by
  have HH0 := Lib.hid (Hold.start hr)
  have HR := Lib.hid H
  clear hr H
  go_enter Tryz.func44, Tryz.ntmps44
  go_upto_region 1 with fail
  generalize (w.alloc (.cells #[rdAcc ps pa, rdTak ps pa, rdEnd ps pa] 41)).alloc (.cells #[.int .i64 0, .string ⟨#[]⟩, .int .i64 0, .slice none 0 0] 26) = wa at *
  have b0 : wa.cell? ⟨w.heap.size, 0, none⟩ = some (rdAcc ps pa) := HH0.out.rdr.cell 0
  have b1 : wa.cell? ⟨w.heap.size, 1, none⟩ = some (rdTak ps pa) := HH0.out.rdr.cell 1
  have b2 : wa.cell? ⟨w.heap.size, 2, none⟩ = some (rdEnd ps pa) := HH0.out.rdr.cell 2
  have HT := Lib.hid (takeRun_any 43 enters_name nameR wordC nameR_byte nameR_high pred_name ps pa j s wa HH0.out.rd.rd hs)
  go_wp2_with fail
  refine HT.out.mono ?_
  rintro e w1 ⟨k1, hk1, ⟨rfl, hr3, hg3⟩, hd3, ht3⟩
  have HH1 := Lib.hid (HH0.out.read hr3 hg3)
  have hwz : (s.extract j k1).size ≤ maxLen := by rw [ByteArray.size_extract]; unfold maxLen; omega
  have HXA := Lib.hid (show rdWordO (rdOi n) ((restOf s j).takeWhile wordC) ((restOf s j).dropWhile wordC) = rdWordO (rdOi n) (s.extract j k1).data.toList (restOf s k1) by rw [hd3, ← ht3])
  have hwz2 : (s.extract j k1).size ≤ 1048576 := by rw [ByteArray.size_extract]; omega
  clear hr3 hg3 hd3 ht3 b0 b1 b2 hwz
  have b0 : w1.cell? ⟨w.heap.size, 0, none⟩ = some (rdAcc ps pa) := HH1.out.rdr.cell 0
  have b1 : w1.cell? ⟨w.heap.size, 1, none⟩ = some (rdTak ps pa) := HH1.out.rdr.cell 1
  have b2 : w1.cell? ⟨w.heap.size, 2, none⟩ = some (rdEnd ps pa) := HH1.out.rdr.cell 2
  by_cases hu : (s.extract j k1).data.toList = [105, 100]
  · have hq1 : ((s.extract j k1).toList == [105, 100]) = true := by rw [ByteArray.toList_eq, hu]; simp
    have HX := Lib.hid (show rdWordO (rdOi n) (s.extract j k1).data.toList (restOf s k1) = some (.mk 1 0 ⟨#[]⟩ [], restOf s k1) by rw [rdWordO, if_pos hu])
    clear hu
    have d0 : w1.cell? ⟨w.heap.size + 1, 0, none⟩ = some (.int .i64 0) := HH1.out.zero.cell 0
    have d1 : w1.cell? ⟨w.heap.size + 1, 1, none⟩ = some (.string ⟨#[]⟩) := HH1.out.zero.cell 1
    have d2 : w1.cell? ⟨w.heap.size + 1, 2, none⟩ = some (.int .i64 0) := HH1.out.zero.cell 2
    have d3 : w1.cell? ⟨w.heap.size + 1, 3, none⟩ = some (.slice none 0 0) := HH1.out.zero.cell 3
    have f0 : w1.frozen? ⟨w.heap.size + 1, 0, none⟩ = false := HH1.out.zero.free 0
    have f1 : w1.frozen? ⟨w.heap.size + 1, 1, none⟩ = false := HH1.out.zero.free 1
    have f2 : w1.frozen? ⟨w.heap.size + 1, 2, none⟩ = false := HH1.out.zero.free 2
    have f3 : w1.frozen? ⟨w.heap.size + 1, 3, none⟩ = false := HH1.out.zero.free 3
    go_wp2
    exact bodyPost_ret (v := .tuple #[.agg #[.int .i64 1, .string ⟨#[]⟩, .int .i64 0, .slice none 0 0], .bool true]) (by simp [results, Tryz.results44, go_sem, d0, d1, d2, d3]) rfl (HH1.out.yes (HXA.out.trans HX.out) (OwnOt.leaf _ _ 1 0 ⟨#[]⟩ (Nat.zero_le _)) _ _ _ _)
  · have hq1 : ((s.extract j k1).toList == [105, 100]) = false := by rw [ByteArray.toList_eq, beq_eq_false_iff_ne]; exact hu
    have HN1 := Lib.hid hu
    clear hu
    by_cases hu : (s.extract j k1).data.toList = [101, 97, 99, 104]
    · have hq4 : ((s.extract j k1).toList == [101, 97, 99, 104]) = true := by rw [ByteArray.toList_eq, hu]; simp
      have HX := Lib.hid (show rdWordO (rdOi n) (s.extract j k1).data.toList (restOf s k1) = some (.mk 4 0 ⟨#[]⟩ [], restOf s k1) by rw [rdWordO, if_neg HN1.out, if_pos hu])
      clear hu
      have d0 : w1.cell? ⟨w.heap.size + 1, 0, none⟩ = some (.int .i64 0) := HH1.out.zero.cell 0
      have d1 : w1.cell? ⟨w.heap.size + 1, 1, none⟩ = some (.string ⟨#[]⟩) := HH1.out.zero.cell 1
      have d2 : w1.cell? ⟨w.heap.size + 1, 2, none⟩ = some (.int .i64 0) := HH1.out.zero.cell 2
      have d3 : w1.cell? ⟨w.heap.size + 1, 3, none⟩ = some (.slice none 0 0) := HH1.out.zero.cell 3
      have f0 : w1.frozen? ⟨w.heap.size + 1, 0, none⟩ = false := HH1.out.zero.free 0
      have f1 : w1.frozen? ⟨w.heap.size + 1, 1, none⟩ = false := HH1.out.zero.free 1
      have f2 : w1.frozen? ⟨w.heap.size + 1, 2, none⟩ = false := HH1.out.zero.free 2
      have f3 : w1.frozen? ⟨w.heap.size + 1, 3, none⟩ = false := HH1.out.zero.free 3
      go_wp2
      exact bodyPost_ret (v := .tuple #[.agg #[.int .i64 4, .string ⟨#[]⟩, .int .i64 0, .slice none 0 0], .bool true]) (by simp [results, Tryz.results44, go_sem, d0, d1, d2, d3]) rfl (HH1.out.yes (HXA.out.trans HX.out) (OwnOt.leaf _ _ 4 0 ⟨#[]⟩ (Nat.zero_le _)) _ _ _ _)
    · have hq4 : ((s.extract j k1).toList == [101, 97, 99, 104]) = false := by rw [ByteArray.toList_eq, beq_eq_false_iff_ne]; exact hu
      have HN4 := Lib.hid hu
      clear hu
      by_cases hu : (s.extract j k1).data.toList = [97, 108, 108]
      · have hq5 : ((s.extract j k1).toList == [97, 108, 108]) = true := by rw [ByteArray.toList_eq, hu]; simp
        have HX := Lib.hid (show rdWordO (rdOi n) (s.extract j k1).data.toList (restOf s k1) = some (.mk 5 0 ⟨#[]⟩ [], restOf s k1) by rw [rdWordO, if_neg HN1.out, if_neg HN4.out, if_pos hu])
        clear hu
        have d0 : w1.cell? ⟨w.heap.size + 1, 0, none⟩ = some (.int .i64 0) := HH1.out.zero.cell 0
        have d1 : w1.cell? ⟨w.heap.size + 1, 1, none⟩ = some (.string ⟨#[]⟩) := HH1.out.zero.cell 1
        have d2 : w1.cell? ⟨w.heap.size + 1, 2, none⟩ = some (.int .i64 0) := HH1.out.zero.cell 2
        have d3 : w1.cell? ⟨w.heap.size + 1, 3, none⟩ = some (.slice none 0 0) := HH1.out.zero.cell 3
        have f0 : w1.frozen? ⟨w.heap.size + 1, 0, none⟩ = false := HH1.out.zero.free 0
        have f1 : w1.frozen? ⟨w.heap.size + 1, 1, none⟩ = false := HH1.out.zero.free 1
        have f2 : w1.frozen? ⟨w.heap.size + 1, 2, none⟩ = false := HH1.out.zero.free 2
        have f3 : w1.frozen? ⟨w.heap.size + 1, 3, none⟩ = false := HH1.out.zero.free 3
        go_wp2
        exact bodyPost_ret (v := .tuple #[.agg #[.int .i64 5, .string ⟨#[]⟩, .int .i64 0, .slice none 0 0], .bool true]) (by simp [results, Tryz.results44, go_sem, d0, d1, d2, d3]) rfl (HH1.out.yes (HXA.out.trans HX.out) (OwnOt.leaf _ _ 5 0 ⟨#[]⟩ (Nat.zero_le _)) _ _ _ _)
      · have hq5 : ((s.extract j k1).toList == [97, 108, 108]) = false := by rw [ByteArray.toList_eq, beq_eq_false_iff_ne]; exact hu
        have HN5 := Lib.hid hu
        clear hu
        by_cases hu : (s.extract j k1).data.toList = [110, 111, 116]
        · have hq8 : ((s.extract j k1).toList == [110, 111, 116]) = true := by rw [ByteArray.toList_eq, hu]; simp
          have HX := Lib.hid (show rdWordO (rdOi n) (s.extract j k1).data.toList (restOf s k1) = some (.mk 8 0 ⟨#[]⟩ [], restOf s k1) by rw [rdWordO, if_neg HN1.out, if_neg HN4.out, if_neg HN5.out, if_pos hu])
          clear hu
          have d0 : w1.cell? ⟨w.heap.size + 1, 0, none⟩ = some (.int .i64 0) := HH1.out.zero.cell 0
          have d1 : w1.cell? ⟨w.heap.size + 1, 1, none⟩ = some (.string ⟨#[]⟩) := HH1.out.zero.cell 1
          have d2 : w1.cell? ⟨w.heap.size + 1, 2, none⟩ = some (.int .i64 0) := HH1.out.zero.cell 2
          have d3 : w1.cell? ⟨w.heap.size + 1, 3, none⟩ = some (.slice none 0 0) := HH1.out.zero.cell 3
          have f0 : w1.frozen? ⟨w.heap.size + 1, 0, none⟩ = false := HH1.out.zero.free 0
          have f1 : w1.frozen? ⟨w.heap.size + 1, 1, none⟩ = false := HH1.out.zero.free 1
          have f2 : w1.frozen? ⟨w.heap.size + 1, 2, none⟩ = false := HH1.out.zero.free 2
          have f3 : w1.frozen? ⟨w.heap.size + 1, 3, none⟩ = false := HH1.out.zero.free 3
          go_wp2
          exact bodyPost_ret (v := .tuple #[.agg #[.int .i64 8, .string ⟨#[]⟩, .int .i64 0, .slice none 0 0], .bool true]) (by simp [results, Tryz.results44, go_sem, d0, d1, d2, d3]) rfl (HH1.out.yes (HXA.out.trans HX.out) (OwnOt.leaf _ _ 8 0 ⟨#[]⟩ (Nat.zero_le _)) _ _ _ _)
        · have hq8 : ((s.extract j k1).toList == [110, 111, 116]) = false := by rw [ByteArray.toList_eq, beq_eq_false_iff_ne]; exact hu
          have HN8 := Lib.hid hu
          clear hu
          by_cases hu : (s.extract j k1).data.toList = [114, 101, 118]
          · have hq9 : ((s.extract j k1).toList == [114, 101, 118]) = true := by rw [ByteArray.toList_eq, hu]; simp
            have HX := Lib.hid (show rdWordO (rdOi n) (s.extract j k1).data.toList (restOf s k1) = some (.mk 9 0 ⟨#[]⟩ [], restOf s k1) by rw [rdWordO, if_neg HN1.out, if_neg HN4.out, if_neg HN5.out, if_neg HN8.out, if_pos hu])
            clear hu
            have d0 : w1.cell? ⟨w.heap.size + 1, 0, none⟩ = some (.int .i64 0) := HH1.out.zero.cell 0
            have d1 : w1.cell? ⟨w.heap.size + 1, 1, none⟩ = some (.string ⟨#[]⟩) := HH1.out.zero.cell 1
            have d2 : w1.cell? ⟨w.heap.size + 1, 2, none⟩ = some (.int .i64 0) := HH1.out.zero.cell 2
            have d3 : w1.cell? ⟨w.heap.size + 1, 3, none⟩ = some (.slice none 0 0) := HH1.out.zero.cell 3
            have f0 : w1.frozen? ⟨w.heap.size + 1, 0, none⟩ = false := HH1.out.zero.free 0
            have f1 : w1.frozen? ⟨w.heap.size + 1, 1, none⟩ = false := HH1.out.zero.free 1
            have f2 : w1.frozen? ⟨w.heap.size + 1, 2, none⟩ = false := HH1.out.zero.free 2
            have f3 : w1.frozen? ⟨w.heap.size + 1, 3, none⟩ = false := HH1.out.zero.free 3
            go_wp2
            exact bodyPost_ret (v := .tuple #[.agg #[.int .i64 9, .string ⟨#[]⟩, .int .i64 0, .slice none 0 0], .bool true]) (by simp [results, Tryz.results44, go_sem, d0, d1, d2, d3]) rfl (HH1.out.yes (HXA.out.trans HX.out) (OwnOt.leaf _ _ 9 0 ⟨#[]⟩ (Nat.zero_le _)) _ _ _ _)
          · have hq9 : ((s.extract j k1).toList == [114, 101, 118]) = false := by rw [ByteArray.toList_eq, beq_eq_false_iff_ne]; exact hu
            have HN9 := Lib.hid hu
            clear hu
            by_cases hu : (s.extract j k1).data.toList = [97, 116]
            · have hq6 : ((s.extract j k1).toList == [97, 116]) = true := by rw [ByteArray.toList_eq, hu]; simp
              have HX := Lib.hid (show rdWordO (rdOi n) (s.extract j k1).data.toList (restOf s k1) = rdStepO 6 (restOf s k1) by rw [rdWordO, if_neg HN1.out, if_neg HN4.out, if_neg HN5.out, if_neg HN8.out, if_neg HN9.out, if_pos hu])
              clear hu
              have HS := Lib.hid (readStep_any 6 B w1 ps pa k1 s HH1.out.rd hs)
              have hz1 := HH1.out.zero.lt
              go_wp2_with fail
              refine HS.out.mono ?_
              rintro e w3 ⟨k3, nm3, n3, A3, m3, ac3, ok3, j3, rfl, hr3, hg3, hor⟩
              have HH3 := Lib.hid (HH1.out.read' hr3 hg3)
              have hor2 : (ok3 = false ∧ rdWordO (rdOi n) ((restOf s j).takeWhile wordC) ((restOf s j).dropWhile wordC) = none) ∨ (ok3 = true ∧ ∃ t, rdWordO (rdOi n) ((restOf s j).takeWhile wordC) ((restOf s j).dropWhile wordC) = some (t, restOf s j3) ∧ OwnOt w3 (w.heap.size + 2) (.agg #[.int .i64 k3, .string nm3, .int .i64 n3, .slice A3 m3 ac3]) t) := by
                rw [HXA.out, HX.out]
                exact hor.imp id fun ⟨h1, t, h2, h3⟩ => ⟨h1, t, h2, h3.base (by omega)⟩
              have HOR := Lib.hid hor2
              clear hr3 hg3 hor hor2 b0 b1 b2
              have d0 : w3.cell? ⟨w.heap.size + 1, 0, none⟩ = some (.int .i64 0) := HH3.out.zero.cell 0
              have d1 : w3.cell? ⟨w.heap.size + 1, 1, none⟩ = some (.string ⟨#[]⟩) := HH3.out.zero.cell 1
              have d2 : w3.cell? ⟨w.heap.size + 1, 2, none⟩ = some (.int .i64 0) := HH3.out.zero.cell 2
              have d3 : w3.cell? ⟨w.heap.size + 1, 3, none⟩ = some (.slice none 0 0) := HH3.out.zero.cell 3
              have f0 : w3.frozen? ⟨w.heap.size + 1, 0, none⟩ = false := HH3.out.zero.free 0
              have f1 : w3.frozen? ⟨w.heap.size + 1, 1, none⟩ = false := HH3.out.zero.free 1
              have f2 : w3.frozen? ⟨w.heap.size + 1, 2, none⟩ = false := HH3.out.zero.free 2
              have f3 : w3.frozen? ⟨w.heap.size + 1, 3, none⟩ = false := HH3.out.zero.free 3
              go_wp2
              exact bodyPost_ret (v := .tuple #[.agg #[.int .i64 k3, .string nm3, .int .i64 n3, .slice A3 m3 ac3], .bool ok3]) (by simp [results, Tryz.results44, go_sem, d0, d1, d2, d3]) rfl (HH3.out.pass HOR.out _ _ _ _)
            · have hq6 : ((s.extract j k1).toList == [97, 116]) = false := by rw [ByteArray.toList_eq, beq_eq_false_iff_ne]; exact hu
              have HN6 := Lib.hid hu
              clear hu
              by_cases hu : (s.extract j k1).data.toList = [97, 100, 100]
              · have hq7 : ((s.extract j k1).toList == [97, 100, 100]) = true := by rw [ByteArray.toList_eq, hu]; simp
                have HX := Lib.hid (show rdWordO (rdOi n) (s.extract j k1).data.toList (restOf s k1) = rdStepO 7 (restOf s k1) by rw [rdWordO, if_neg HN1.out, if_neg HN4.out, if_neg HN5.out, if_neg HN8.out, if_neg HN9.out, if_neg HN6.out, if_pos hu])
                clear hu
                have HS := Lib.hid (readStep_any 7 B w1 ps pa k1 s HH1.out.rd hs)
                have hz1 := HH1.out.zero.lt
                go_wp2_with fail
                refine HS.out.mono ?_
                rintro e w3 ⟨k3, nm3, n3, A3, m3, ac3, ok3, j3, rfl, hr3, hg3, hor⟩
                have HH3 := Lib.hid (HH1.out.read' hr3 hg3)
                have hor2 : (ok3 = false ∧ rdWordO (rdOi n) ((restOf s j).takeWhile wordC) ((restOf s j).dropWhile wordC) = none) ∨ (ok3 = true ∧ ∃ t, rdWordO (rdOi n) ((restOf s j).takeWhile wordC) ((restOf s j).dropWhile wordC) = some (t, restOf s j3) ∧ OwnOt w3 (w.heap.size + 2) (.agg #[.int .i64 k3, .string nm3, .int .i64 n3, .slice A3 m3 ac3]) t) := by
                  rw [HXA.out, HX.out]
                  exact hor.imp id fun ⟨h1, t, h2, h3⟩ => ⟨h1, t, h2, h3.base (by omega)⟩
                have HOR := Lib.hid hor2
                clear hr3 hg3 hor hor2 b0 b1 b2
                have d0 : w3.cell? ⟨w.heap.size + 1, 0, none⟩ = some (.int .i64 0) := HH3.out.zero.cell 0
                have d1 : w3.cell? ⟨w.heap.size + 1, 1, none⟩ = some (.string ⟨#[]⟩) := HH3.out.zero.cell 1
                have d2 : w3.cell? ⟨w.heap.size + 1, 2, none⟩ = some (.int .i64 0) := HH3.out.zero.cell 2
                have d3 : w3.cell? ⟨w.heap.size + 1, 3, none⟩ = some (.slice none 0 0) := HH3.out.zero.cell 3
                have f0 : w3.frozen? ⟨w.heap.size + 1, 0, none⟩ = false := HH3.out.zero.free 0
                have f1 : w3.frozen? ⟨w.heap.size + 1, 1, none⟩ = false := HH3.out.zero.free 1
                have f2 : w3.frozen? ⟨w.heap.size + 1, 2, none⟩ = false := HH3.out.zero.free 2
                have f3 : w3.frozen? ⟨w.heap.size + 1, 3, none⟩ = false := HH3.out.zero.free 3
                go_wp2
                exact bodyPost_ret (v := .tuple #[.agg #[.int .i64 k3, .string nm3, .int .i64 n3, .slice A3 m3 ac3], .bool ok3]) (by simp [results, Tryz.results44, go_sem, d0, d1, d2, d3]) rfl (HH3.out.pass HOR.out _ _ _ _)
              · have hq7 : ((s.extract j k1).toList == [97, 100, 100]) = false := by rw [ByteArray.toList_eq, beq_eq_false_iff_ne]; exact hu
                have HN7 := Lib.hid hu
                clear hu
                by_cases hu : (s.extract j k1).data.toList = [119, 114, 97, 112]
                · have hq10 : ((s.extract j k1).toList == [119, 114, 97, 112]) = true := by rw [ByteArray.toList_eq, hu]; simp
                  have HX := Lib.hid (show rdWordO (rdOi n) (s.extract j k1).data.toList (restOf s k1) = (match eat 32 (restOf s k1) with | none => none | some q => rdNm 10 q) by rw [rdWordO, if_neg HN1.out, if_neg HN4.out, if_neg HN5.out, if_neg HN8.out, if_neg HN9.out, if_neg HN6.out, if_neg HN7.out, if_pos hu]; cases eat 32 (restOf s k1) <;> rfl)
                  clear hu
                  cases hx : eat 32 (restOf s k1) with
                  | none =>
                    have HXN := Lib.hid hx
                    have HC := Lib.hid (accE_no ps pa k1 s ⟨#[32]⟩ w1 HH1.out.rd.rd ((eats_one 32 _).trans hx))
                    clear hx
                    go_wp2_with fail
                    refine HC.out.mono ?_
                    rintro e w3 ⟨rfl, hr2, hg2⟩
                    have HH3 := Lib.hid (HH1.out.read hr2 hg2)
                    clear hr2 hg2 b0 b1 b2
                    have b0 : w3.cell? ⟨w.heap.size, 0, none⟩ = some (rdAcc ps pa) := HH3.out.rdr.cell 0
                    have b1 : w3.cell? ⟨w.heap.size, 1, none⟩ = some (rdTak ps pa) := HH3.out.rdr.cell 1
                    have b2 : w3.cell? ⟨w.heap.size, 2, none⟩ = some (rdEnd ps pa) := HH3.out.rdr.cell 2
                    have HT := Lib.hid (takeRun_any 43 enters_name nameR wordC nameR_byte nameR_high pred_name ps pa k1 s w3 HH3.out.rd.rd hs)
                    go_wp2_with fail
                    refine HT.out.mono ?_
                    rintro e w4 ⟨k2, hk2, ⟨rfl, hr3, hg3⟩, hd3, ht3⟩
                    have HH4 := Lib.hid (HH3.out.read hr3 hg3)
                    have hwz : (s.extract k1 k2).size ≤ maxLen := by rw [ByteArray.size_extract]; unfold maxLen; omega
                    have HDW := Lib.hid (show rdNm 10 (restOf s k1) = some (.mk 10 0 (s.extract k1 k2) [], restOf s k2) by rw [rdNm, ht3, hd3])
                    clear hr3 hg3 hd3 ht3 b0 b1 b2
                    have HXF := Lib.hid (show rdWordO (rdOi n) ((restOf s j).takeWhile wordC) ((restOf s j).dropWhile wordC) = none by rw [HXA.out, HX.out, HXN.out])
                    have d0 : w4.cell? ⟨w.heap.size + 1, 0, none⟩ = some (.int .i64 0) := HH4.out.zero.cell 0
                    have d1 : w4.cell? ⟨w.heap.size + 1, 1, none⟩ = some (.string ⟨#[]⟩) := HH4.out.zero.cell 1
                    have d2 : w4.cell? ⟨w.heap.size + 1, 2, none⟩ = some (.int .i64 0) := HH4.out.zero.cell 2
                    have d3 : w4.cell? ⟨w.heap.size + 1, 3, none⟩ = some (.slice none 0 0) := HH4.out.zero.cell 3
                    have f0 : w4.frozen? ⟨w.heap.size + 1, 0, none⟩ = false := HH4.out.zero.free 0
                    have f1 : w4.frozen? ⟨w.heap.size + 1, 1, none⟩ = false := HH4.out.zero.free 1
                    have f2 : w4.frozen? ⟨w.heap.size + 1, 2, none⟩ = false := HH4.out.zero.free 2
                    have f3 : w4.frozen? ⟨w.heap.size + 1, 3, none⟩ = false := HH4.out.zero.free 3
                    go_wp2
                    exact bodyPost_ret (v := .tuple #[.agg #[.int .i64 10, .string (s.extract k1 k2), .int .i64 0, .slice none 0 0], .bool false]) (by simp [results, Tryz.results44, go_sem, d0, d1, d2, d3]) rfl (HH4.out.no HXF.out 10 0 _ none 0 0 _ _ _ _)
                  | some q1 =>
                    have hx1 := (eats_one 32 _).trans hx
                    obtain ⟨hle1, rfl⟩ := eats_rest (p := ⟨#[32]⟩) HH1.out.rd.rd.le hx1
                    have HXS := Lib.hid hx
                    have HC := Lib.hid (accE_yes ps pa k1 s ⟨#[32]⟩ _ w1 HH1.out.rd.rd hs hx1)
                    clear hx hx1
                    generalize k1 + (⟨#[32]⟩ : ByteArray).size = j2 at *
                    go_wp2_with fail
                    refine HC.out.mono ?_
                    rintro e w3 ⟨rfl, hr2, hg2⟩
                    have HH3 := Lib.hid (HH1.out.read hr2 hg2)
                    clear hr2 hg2 b0 b1 b2
                    have b0 : w3.cell? ⟨w.heap.size, 0, none⟩ = some (rdAcc ps pa) := HH3.out.rdr.cell 0
                    have b1 : w3.cell? ⟨w.heap.size, 1, none⟩ = some (rdTak ps pa) := HH3.out.rdr.cell 1
                    have b2 : w3.cell? ⟨w.heap.size, 2, none⟩ = some (rdEnd ps pa) := HH3.out.rdr.cell 2
                    have HT := Lib.hid (takeRun_any 43 enters_name nameR wordC nameR_byte nameR_high pred_name ps pa j2 s w3 HH3.out.rd.rd hs)
                    go_wp2_with fail
                    refine HT.out.mono ?_
                    rintro e w4 ⟨k2, hk2, ⟨rfl, hr3, hg3⟩, hd3, ht3⟩
                    have HH4 := Lib.hid (HH3.out.read hr3 hg3)
                    have hwz : (s.extract j2 k2).size ≤ maxLen := by rw [ByteArray.size_extract]; unfold maxLen; omega
                    have HDW := Lib.hid (show rdNm 10 (restOf s j2) = some (.mk 10 0 (s.extract j2 k2) [], restOf s k2) by rw [rdNm, ht3, hd3])
                    clear hr3 hg3 hd3 ht3 b0 b1 b2
                    have HXF := Lib.hid (show rdWordO (rdOi n) ((restOf s j).takeWhile wordC) ((restOf s j).dropWhile wordC) = some (.mk 10 0 (s.extract j2 k2) [], restOf s k2) by rw [HXA.out, HX.out, HXS.out]; exact HDW.out)
                    have d0 : w4.cell? ⟨w.heap.size + 1, 0, none⟩ = some (.int .i64 0) := HH4.out.zero.cell 0
                    have d1 : w4.cell? ⟨w.heap.size + 1, 1, none⟩ = some (.string ⟨#[]⟩) := HH4.out.zero.cell 1
                    have d2 : w4.cell? ⟨w.heap.size + 1, 2, none⟩ = some (.int .i64 0) := HH4.out.zero.cell 2
                    have d3 : w4.cell? ⟨w.heap.size + 1, 3, none⟩ = some (.slice none 0 0) := HH4.out.zero.cell 3
                    have f0 : w4.frozen? ⟨w.heap.size + 1, 0, none⟩ = false := HH4.out.zero.free 0
                    have f1 : w4.frozen? ⟨w.heap.size + 1, 1, none⟩ = false := HH4.out.zero.free 1
                    have f2 : w4.frozen? ⟨w.heap.size + 1, 2, none⟩ = false := HH4.out.zero.free 2
                    have f3 : w4.frozen? ⟨w.heap.size + 1, 3, none⟩ = false := HH4.out.zero.free 3
                    go_wp2
                    exact bodyPost_ret (v := .tuple #[.agg #[.int .i64 10, .string (s.extract j2 k2), .int .i64 0, .slice none 0 0], .bool true]) (by simp [results, Tryz.results44, go_sem, d0, d1, d2, d3]) rfl (HH4.out.yes HXF.out (OwnOt.leaf _ _ 10 0 _ hwz) _ _ _ _)
                · have hq10 : ((s.extract j k1).toList == [119, 114, 97, 112]) = false := by rw [ByteArray.toList_eq, beq_eq_false_iff_ne]; exact hu
                  have HN10 := Lib.hid hu
                  clear hu
                  by_cases hu : (s.extract j k1).data.toList = [109, 97, 112]
                  · have hq11 : ((s.extract j k1).toList == [109, 97, 112]) = true := by rw [ByteArray.toList_eq, hu]; simp
                    have HX := Lib.hid (show rdWordO (rdOi n) (s.extract j k1).data.toList (restOf s k1) = (match eat 32 (restOf s k1) with | none => none | some q => rdMapO (rdOi n) q) by rw [rdWordO, if_neg HN1.out, if_neg HN4.out, if_neg HN5.out, if_neg HN8.out, if_neg HN9.out, if_neg HN6.out, if_neg HN7.out, if_neg HN10.out, if_pos hu]; cases eat 32 (restOf s k1) <;> rfl)
                    clear hu
                    cases hx : eat 32 (restOf s k1) with
                    | none =>
                      have HXN := Lib.hid hx
                      have HC := Lib.hid (accE_no ps pa k1 s ⟨#[32]⟩ w1 HH1.out.rd.rd ((eats_one 32 _).trans hx))
                      clear hx
                      go_wp2_with fail
                      refine HC.out.mono ?_
                      rintro e w3 ⟨rfl, hr2, hg2⟩
                      have HH3 := Lib.hid (HH1.out.read hr2 hg2)
                      clear hr2 hg2 b0 b1 b2
                      have HXF := Lib.hid (show rdWordO (rdOi n) ((restOf s j).takeWhile wordC) ((restOf s j).dropWhile wordC) = none by rw [HXA.out, HX.out, HXN.out])
                      have d0 : w3.cell? ⟨w.heap.size + 1, 0, none⟩ = some (.int .i64 0) := HH3.out.zero.cell 0
                      have d1 : w3.cell? ⟨w.heap.size + 1, 1, none⟩ = some (.string ⟨#[]⟩) := HH3.out.zero.cell 1
                      have d2 : w3.cell? ⟨w.heap.size + 1, 2, none⟩ = some (.int .i64 0) := HH3.out.zero.cell 2
                      have d3 : w3.cell? ⟨w.heap.size + 1, 3, none⟩ = some (.slice none 0 0) := HH3.out.zero.cell 3
                      have f0 : w3.frozen? ⟨w.heap.size + 1, 0, none⟩ = false := HH3.out.zero.free 0
                      have f1 : w3.frozen? ⟨w.heap.size + 1, 1, none⟩ = false := HH3.out.zero.free 1
                      have f2 : w3.frozen? ⟨w.heap.size + 1, 2, none⟩ = false := HH3.out.zero.free 2
                      have f3 : w3.frozen? ⟨w.heap.size + 1, 3, none⟩ = false := HH3.out.zero.free 3
                      go_wp2
                      exact bodyPost_ret (v := .tuple #[.agg #[.int .i64 0, .string ⟨#[]⟩, .int .i64 0, .slice none 0 0], .bool false]) (by simp [results, Tryz.results44, go_sem, d0, d1, d2, d3]) rfl (HH3.out.no HXF.out 0 0 ⟨#[]⟩ none 0 0 _ _ _ _)
                    | some q1 =>
                      have hx1 := (eats_one 32 _).trans hx
                      obtain ⟨hle1, rfl⟩ := eats_rest (p := ⟨#[32]⟩) HH1.out.rd.rd.le hx1
                      have HXS := Lib.hid hx
                      have HC := Lib.hid (accE_yes ps pa k1 s ⟨#[32]⟩ _ w1 HH1.out.rd.rd hs hx1)
                      clear hx hx1
                      generalize k1 + (⟨#[32]⟩ : ByteArray).size = j2 at *
                      go_wp2_with fail
                      refine HC.out.mono ?_
                      rintro e w3 ⟨rfl, hr2, hg2⟩
                      have HH3 := Lib.hid (HH1.out.read hr2 hg2)
                      clear hr2 hg2 b0 b1 b2
                      have HRR := Lib.hid (HR.out B w3 ps pa j2 s HH3.out.rd hs)
                      have hz3 := HH3.out.zero.lt
                      have b0 : w3.cell? ⟨w.heap.size, 0, none⟩ = some (rdAcc ps pa) := HH3.out.rdr.cell 0
                      have b1 : w3.cell? ⟨w.heap.size, 1, none⟩ = some (rdTak ps pa) := HH3.out.rdr.cell 1
                      have b2 : w3.cell? ⟨w.heap.size, 2, none⟩ = some (rdEnd ps pa) := HH3.out.rdr.cell 2
                      go_wp2_with fail
                      refine HRR.out.mono ?_
                      rintro e w4 ⟨k4, nm4, n4, A4, m4, ac4, ok4, j4, rfl, hr4, hg4, hor⟩
                      have HH4 := HH3.out.read' hr4 hg4
                      have hs4 := hg4.size
                      obtain ⟨hb5, y5, hs5⟩ := boxes1 w4 26 #[.int .i64 k4, .string nm4, .int .i64 n4, .slice A4 m4 ac4]
                      have HH5 := Lib.hid (HH4.keep hb5)
                      have HOR := Lib.hid hor
                      have HY5 : Hid (Whole1 (w4.alloc (.cells #[.int .i64 k4, .string nm4, .int .i64 n4, .slice A4 m4 ac4] 26)) w4.heap.size 26 #[.int .i64 k4, .string nm4, .int .i64 n4, .slice A4 m4 ac4]) := Lib.hid y5
                      have HKE := Lib.hid hb5
                      have HS5 := Lib.hid hs5
                      clear hr4 hg4 hor HH4 hb5 y5 hs5 b0 b1 b2
                      go_upto_region 24 with fail
                      generalize hy4 : w4.heap.size = y4 at *
                      generalize w4.alloc (.cells #[.int .i64 k4, .string nm4, .int .i64 n4, .slice A4 m4 ac4] 26) = w5 at *
                      have y0 : w5.cell? ⟨y4, 0, none⟩ = some (.int .i64 k4) := HY5.out.cell 0
                      have y1 : w5.cell? ⟨y4, 1, none⟩ = some (.string nm4) := HY5.out.cell 1
                      have y2 : w5.cell? ⟨y4, 2, none⟩ = some (.int .i64 n4) := HY5.out.cell 2
                      have y3 : w5.cell? ⟨y4, 3, none⟩ = some (.slice A4 m4 ac4) := HY5.out.cell 3
                      have hb6 := (Below.refl w5.heap.size w5).alloc (Nat.le_refl _) (.cells #[.int .i64 k4, .string nm4, .int .i64 n4, .slice A4 m4 ac4] 26)
                      have HH6 := Lib.hid (HH5.out.keep hb6)
                      clear hb6
                      rcases HOR.out with ⟨rfl, hno⟩ | ⟨rfl, t, hyes, hO⟩
                      · have HXF := Lib.hid (show rdWordO (rdOi n) ((restOf s j).takeWhile wordC) ((restOf s j).dropWhile wordC) = none by rw [HXA.out, HX.out, HXS.out]; simp only [rdMapO, hno])
                        clear hno HOR
                        have d0 : (w5.alloc (.cells #[.int .i64 k4, .string nm4, .int .i64 n4, .slice A4 m4 ac4] 26)).cell? ⟨w.heap.size + 1, 0, none⟩ = some (.int .i64 0) := HH6.out.zero.cell 0
                        have d1 : (w5.alloc (.cells #[.int .i64 k4, .string nm4, .int .i64 n4, .slice A4 m4 ac4] 26)).cell? ⟨w.heap.size + 1, 1, none⟩ = some (.string ⟨#[]⟩) := HH6.out.zero.cell 1
                        have d2 : (w5.alloc (.cells #[.int .i64 k4, .string nm4, .int .i64 n4, .slice A4 m4 ac4] 26)).cell? ⟨w.heap.size + 1, 2, none⟩ = some (.int .i64 0) := HH6.out.zero.cell 2
                        have d3 : (w5.alloc (.cells #[.int .i64 k4, .string nm4, .int .i64 n4, .slice A4 m4 ac4] 26)).cell? ⟨w.heap.size + 1, 3, none⟩ = some (.slice none 0 0) := HH6.out.zero.cell 3
                        have f0 : (w5.alloc (.cells #[.int .i64 k4, .string nm4, .int .i64 n4, .slice A4 m4 ac4] 26)).frozen? ⟨w.heap.size + 1, 0, none⟩ = false := HH6.out.zero.free 0
                        have f1 : (w5.alloc (.cells #[.int .i64 k4, .string nm4, .int .i64 n4, .slice A4 m4 ac4] 26)).frozen? ⟨w.heap.size + 1, 1, none⟩ = false := HH6.out.zero.free 1
                        have f2 : (w5.alloc (.cells #[.int .i64 k4, .string nm4, .int .i64 n4, .slice A4 m4 ac4] 26)).frozen? ⟨w.heap.size + 1, 2, none⟩ = false := HH6.out.zero.free 2
                        have f3 : (w5.alloc (.cells #[.int .i64 k4, .string nm4, .int .i64 n4, .slice A4 m4 ac4] 26)).frozen? ⟨w.heap.size + 1, 3, none⟩ = false := HH6.out.zero.free 3
                        go_wp2
                        exact bodyPost_ret (v := .tuple #[.agg #[.int .i64 11, .string ⟨#[]⟩, .int .i64 0, .slice (some ⟨w5.heap.size, 0, none⟩) 1 1], .bool false]) (by simp [results, Tryz.results44, go_sem, d0, d1, d2, d3]) rfl (HH6.out.no HXF.out 11 0 ⟨#[]⟩ _ 1 1 _ _ _ _)
                      · have HXF := Lib.hid (show rdWordO (rdOi n) ((restOf s j).takeWhile wordC) ((restOf s j).dropWhile wordC) = some (.mk 11 0 ⟨#[]⟩ [t], restOf s j4) by rw [HXA.out, HX.out, HXS.out]; simp only [rdMapO, hyes])
                        have hI5 := hO.owned.keep (w' := w5) (fun g hg hl => HKE.out.block g (by have := (osp _ hg).2; omega))
                        have HO6 := Lib.hid (own_oone (w1 := w5) (base := w.heap.size + 2) 11 0 ⟨#[]⟩ (Nat.zero_le _) (by omega) (by have := HS5.out; omega) (by have := HS5.out; omega) hI5)
                        clear hyes hO hI5 HOR
                        have d0 : (w5.alloc (.cells #[.int .i64 k4, .string nm4, .int .i64 n4, .slice A4 m4 ac4] 26)).cell? ⟨w.heap.size + 1, 0, none⟩ = some (.int .i64 0) := HH6.out.zero.cell 0
                        have d1 : (w5.alloc (.cells #[.int .i64 k4, .string nm4, .int .i64 n4, .slice A4 m4 ac4] 26)).cell? ⟨w.heap.size + 1, 1, none⟩ = some (.string ⟨#[]⟩) := HH6.out.zero.cell 1
                        have d2 : (w5.alloc (.cells #[.int .i64 k4, .string nm4, .int .i64 n4, .slice A4 m4 ac4] 26)).cell? ⟨w.heap.size + 1, 2, none⟩ = some (.int .i64 0) := HH6.out.zero.cell 2
                        have d3 : (w5.alloc (.cells #[.int .i64 k4, .string nm4, .int .i64 n4, .slice A4 m4 ac4] 26)).cell? ⟨w.heap.size + 1, 3, none⟩ = some (.slice none 0 0) := HH6.out.zero.cell 3
                        have f0 : (w5.alloc (.cells #[.int .i64 k4, .string nm4, .int .i64 n4, .slice A4 m4 ac4] 26)).frozen? ⟨w.heap.size + 1, 0, none⟩ = false := HH6.out.zero.free 0
                        have f1 : (w5.alloc (.cells #[.int .i64 k4, .string nm4, .int .i64 n4, .slice A4 m4 ac4] 26)).frozen? ⟨w.heap.size + 1, 1, none⟩ = false := HH6.out.zero.free 1
                        have f2 : (w5.alloc (.cells #[.int .i64 k4, .string nm4, .int .i64 n4, .slice A4 m4 ac4] 26)).frozen? ⟨w.heap.size + 1, 2, none⟩ = false := HH6.out.zero.free 2
                        have f3 : (w5.alloc (.cells #[.int .i64 k4, .string nm4, .int .i64 n4, .slice A4 m4 ac4] 26)).frozen? ⟨w.heap.size + 1, 3, none⟩ = false := HH6.out.zero.free 3
                        go_wp2
                        exact bodyPost_ret (v := .tuple #[.agg #[.int .i64 11, .string ⟨#[]⟩, .int .i64 0, .slice (some ⟨w5.heap.size, 0, none⟩) 1 1], .bool true]) (by simp [results, Tryz.results44, go_sem, d0, d1, d2, d3]) rfl (HH6.out.yes HXF.out HO6.out _ _ _ _)
                  · have hq11 : ((s.extract j k1).toList == [109, 97, 112]) = false := by rw [ByteArray.toList_eq, beq_eq_false_iff_ne]; exact hu
                    have HN11 := Lib.hid hu
                    clear hu
                    have HX := Lib.hid (show rdWordO (rdOi n) (s.extract j k1).data.toList (restOf s k1) = none by rw [rdWordO, if_neg HN1.out, if_neg HN4.out, if_neg HN5.out, if_neg HN8.out, if_neg HN9.out, if_neg HN6.out, if_neg HN7.out, if_neg HN10.out, if_neg HN11.out])
                    have d0 : w1.cell? ⟨w.heap.size + 1, 0, none⟩ = some (.int .i64 0) := HH1.out.zero.cell 0
                    have d1 : w1.cell? ⟨w.heap.size + 1, 1, none⟩ = some (.string ⟨#[]⟩) := HH1.out.zero.cell 1
                    have d2 : w1.cell? ⟨w.heap.size + 1, 2, none⟩ = some (.int .i64 0) := HH1.out.zero.cell 2
                    have d3 : w1.cell? ⟨w.heap.size + 1, 3, none⟩ = some (.slice none 0 0) := HH1.out.zero.cell 3
                    have f0 : w1.frozen? ⟨w.heap.size + 1, 0, none⟩ = false := HH1.out.zero.free 0
                    have f1 : w1.frozen? ⟨w.heap.size + 1, 1, none⟩ = false := HH1.out.zero.free 1
                    have f2 : w1.frozen? ⟨w.heap.size + 1, 2, none⟩ = false := HH1.out.zero.free 2
                    have f3 : w1.frozen? ⟨w.heap.size + 1, 3, none⟩ = false := HH1.out.zero.free 3
                    go_wp2
                    exact bodyPost_ret (v := .tuple #[.agg #[.int .i64 0, .string ⟨#[]⟩, .int .i64 0, .slice none 0 0], .bool false]) (by simp [results, Tryz.results44, go_sem, d0, d1, d2, d3]) rfl (HH1.out.no (HXA.out.trans HX.out) 0 0 ⟨#[]⟩ none 0 0 _ _ _ _)

end Go.Proofs.YtlmbnefoobameaaGreatDoor.OI
end

section
namespace Go.Proofs.YtlmbnefoobameaaGreatDoor.OI
open Go Go.RowKit
attribute [local go_sem ↓] Go.wp_at_zero Go.wp_at_succ

set_option maxHeartbeats 4000000 in
theorem readR_zero : ReadR 0 0 := by
  intro B w ps pa j s hr hs
  have HH0 := Lib.hid (Hold.start hr)
  clear hr
  go_enter Tryz.func18, Tryz.ntmps18
  go_upto_region 1 with fail
  generalize (w.alloc (.cells #[rdAcc ps pa, rdTak ps pa, rdEnd ps pa] 41)).alloc (.cells #[.int .i64 0, .string ⟨#[]⟩, .int .i64 0, .slice none 0 0] 26) = wa at *
  have d0 : wa.cell? ⟨w.heap.size + 1, 0, none⟩ = some (.int .i64 0) := HH0.out.zero.cell 0
  have d1 : wa.cell? ⟨w.heap.size + 1, 1, none⟩ = some (.string ⟨#[]⟩) := HH0.out.zero.cell 1
  have d2 : wa.cell? ⟨w.heap.size + 1, 2, none⟩ = some (.int .i64 0) := HH0.out.zero.cell 2
  have d3 : wa.cell? ⟨w.heap.size + 1, 3, none⟩ = some (.slice none 0 0) := HH0.out.zero.cell 3
  have f0 : wa.frozen? ⟨w.heap.size + 1, 0, none⟩ = false := HH0.out.zero.free 0
  have f1 : wa.frozen? ⟨w.heap.size + 1, 1, none⟩ = false := HH0.out.zero.free 1
  have f2 : wa.frozen? ⟨w.heap.size + 1, 2, none⟩ = false := HH0.out.zero.free 2
  have f3 : wa.frozen? ⟨w.heap.size + 1, 3, none⟩ = false := HH0.out.zero.free 3
  go_wp2
  exact bodyPost_ret (v := .tuple #[.agg #[.int .i64 0, .string ⟨#[]⟩, .int .i64 0, .slice none 0 0], .bool false]) (by simp [results, Tryz.results18, go_sem, d0, d1, d2, d3]) rfl (HH0.out.no rfl 0 0 ⟨#[]⟩ none 0 0 _ _ _ _)

set_option maxHeartbeats 16000000 in
set_option maxRecDepth 100000 in
theorem readR_succ (n : Nat) (d d' : Int) (hd0 : (d == 0) = false) (hd : IntKind.i64.wrap (d - 1) = d') (H : ReadR n d') : ReadR (n + 1) d := by
  intro B w ps pa j s hr hs
  have HH0 := Lib.hid (Hold.start hr)
  have HPR := Lib.hid (readPair_any n d d' hd H)
  have HWR := Lib.hid (readWord_any n d d' hd H)
  clear hr H
  go_enter Tryz.func18, Tryz.ntmps18
  go_upto_region 1 with fail
  generalize (w.alloc (.cells #[rdAcc ps pa, rdTak ps pa, rdEnd ps pa] 41)).alloc (.cells #[.int .i64 0, .string ⟨#[]⟩, .int .i64 0, .slice none 0 0] 26) = wa at *
  have b0 : wa.cell? ⟨w.heap.size, 0, none⟩ = some (rdAcc ps pa) := HH0.out.rdr.cell 0
  have b1 : wa.cell? ⟨w.heap.size, 1, none⟩ = some (rdTak ps pa) := HH0.out.rdr.cell 1
  have b2 : wa.cell? ⟨w.heap.size, 2, none⟩ = some (rdEnd ps pa) := HH0.out.rdr.cell 2
  cases hx : eat 40 (restOf s j) with
  | some q1 =>
    have hx1 := (eats_one 40 _).trans hx
    obtain ⟨hle1, rfl⟩ := eats_rest (p := ⟨#[40]⟩) HH0.out.rd.rd.le hx1
    have HXS := Lib.hid hx
    have HC := Lib.hid (accE_yes ps pa j s ⟨#[40]⟩ _ wa HH0.out.rd.rd hs hx1)
    clear hx hx1
    generalize j + (⟨#[40]⟩ : ByteArray).size = j2 at *
    go_wp2_with fail
    refine HC.out.mono ?_
    rintro e w2 ⟨rfl, hr2, hg2⟩
    have HH2 := Lib.hid (HH0.out.read hr2 hg2)
    clear hr2 hg2 b0 b1 b2
    have HX := Lib.hid (show rdOi (n + 1) (restOf s j) = rdTwo (rdOi n) (restOf s j2) by simp only [rdOi, HXS.out])
    have HP := Lib.hid (HPR.out B w2 ps pa j2 s HH2.out.rd hs)
    have hz2 := HH2.out.zero.lt
    have b0 : w2.cell? ⟨w.heap.size, 0, none⟩ = some (rdAcc ps pa) := HH2.out.rdr.cell 0
    have b1 : w2.cell? ⟨w.heap.size, 1, none⟩ = some (rdTak ps pa) := HH2.out.rdr.cell 1
    have b2 : w2.cell? ⟨w.heap.size, 2, none⟩ = some (rdEnd ps pa) := HH2.out.rdr.cell 2
    go_wp2_with fail
    refine HP.out.mono ?_
    rintro e w3 ⟨k3, nm3, n3, A3, m3, ac3, ok3, j3, rfl, hr3, hg3, hor⟩
    have HH3 := Lib.hid (HH2.out.read' hr3 hg3)
    have hor2 : (ok3 = false ∧ rdOi (n + 1) (restOf s j) = none) ∨ (ok3 = true ∧ ∃ t, rdOi (n + 1) (restOf s j) = some (t, restOf s j3) ∧ OwnOt w3 (w.heap.size + 2) (.agg #[.int .i64 k3, .string nm3, .int .i64 n3, .slice A3 m3 ac3]) t) := by
      rw [HX.out]
      exact hor.imp id fun ⟨h1, t, h2, h3⟩ => ⟨h1, t, h2, h3.base (by omega)⟩
    have HOR := Lib.hid hor2
    clear hr3 hg3 hor hor2 b0 b1 b2
    have d0 : w3.cell? ⟨w.heap.size + 1, 0, none⟩ = some (.int .i64 0) := HH3.out.zero.cell 0
    have d1 : w3.cell? ⟨w.heap.size + 1, 1, none⟩ = some (.string ⟨#[]⟩) := HH3.out.zero.cell 1
    have d2 : w3.cell? ⟨w.heap.size + 1, 2, none⟩ = some (.int .i64 0) := HH3.out.zero.cell 2
    have d3 : w3.cell? ⟨w.heap.size + 1, 3, none⟩ = some (.slice none 0 0) := HH3.out.zero.cell 3
    have f0 : w3.frozen? ⟨w.heap.size + 1, 0, none⟩ = false := HH3.out.zero.free 0
    have f1 : w3.frozen? ⟨w.heap.size + 1, 1, none⟩ = false := HH3.out.zero.free 1
    have f2 : w3.frozen? ⟨w.heap.size + 1, 2, none⟩ = false := HH3.out.zero.free 2
    have f3 : w3.frozen? ⟨w.heap.size + 1, 3, none⟩ = false := HH3.out.zero.free 3
    go_wp2
    exact bodyPost_ret (v := .tuple #[.agg #[.int .i64 k3, .string nm3, .int .i64 n3, .slice A3 m3 ac3], .bool ok3]) (by simp [results, Tryz.results18, go_sem, d0, d1, d2, d3]) rfl (HH3.out.pass HOR.out _ _ _ _)
  | none =>
    have E40 := Lib.hid hx
    have HC := Lib.hid (accE_no ps pa j s ⟨#[40]⟩ wa HH0.out.rd.rd ((eats_one 40 _).trans hx))
    clear hx
    go_wp2_with fail
    refine HC.out.mono ?_
    rintro e w40 ⟨rfl, hr2, hg2⟩
    have HH40 := Lib.hid (HH0.out.read hr2 hg2)
    clear hr2 hg2 b0 b1 b2
    have b0 : w40.cell? ⟨w.heap.size, 0, none⟩ = some (rdAcc ps pa) := HH40.out.rdr.cell 0
    have b1 : w40.cell? ⟨w.heap.size, 1, none⟩ = some (rdTak ps pa) := HH40.out.rdr.cell 1
    have b2 : w40.cell? ⟨w.heap.size, 2, none⟩ = some (rdEnd ps pa) := HH40.out.rdr.cell 2
    cases hx : eat 46 (restOf s j) with
    | some q1 =>
      have hx1 := (eats_one 46 _).trans hx
      obtain ⟨hle1, rfl⟩ := eats_rest (p := ⟨#[46]⟩) HH40.out.rd.rd.le hx1
      have HXS := Lib.hid hx
      have HC := Lib.hid (accE_yes ps pa j s ⟨#[46]⟩ _ w40 HH40.out.rd.rd hs hx1)
      clear hx hx1
      generalize j + (⟨#[46]⟩ : ByteArray).size = j2 at *
      go_wp2_with fail
      refine HC.out.mono ?_
      rintro e w2 ⟨rfl, hr2, hg2⟩
      have HH2 := Lib.hid (HH40.out.read hr2 hg2)
      clear hr2 hg2 b0 b1 b2
      have b0 : w2.cell? ⟨w.heap.size, 0, none⟩ = some (rdAcc ps pa) := HH2.out.rdr.cell 0
      have b1 : w2.cell? ⟨w.heap.size, 1, none⟩ = some (rdTak ps pa) := HH2.out.rdr.cell 1
      have b2 : w2.cell? ⟨w.heap.size, 2, none⟩ = some (rdEnd ps pa) := HH2.out.rdr.cell 2
      have HT := Lib.hid (takeRun_any 43 enters_name nameR wordC nameR_byte nameR_high pred_name ps pa j2 s w2 HH2.out.rd.rd hs)
      go_wp2_with fail
      refine HT.out.mono ?_
      rintro e w3 ⟨k2, hk2, ⟨rfl, hr3, hg3⟩, hd3, ht3⟩
      have HH3 := Lib.hid (HH2.out.read hr3 hg3)
      have hwz : (s.extract j2 k2).size ≤ maxLen := by rw [ByteArray.size_extract]; unfold maxLen; omega
      have HX := Lib.hid (show rdOi (n + 1) (restOf s j) = some (.mk 2 0 (s.extract j2 k2) [], restOf s k2) by simp only [rdOi, E40.out, HXS.out, rdNm, ht3, hd3])
      clear hr3 hg3 hd3 ht3 b0 b1 b2
      have d0 : w3.cell? ⟨w.heap.size + 1, 0, none⟩ = some (.int .i64 0) := HH3.out.zero.cell 0
      have d1 : w3.cell? ⟨w.heap.size + 1, 1, none⟩ = some (.string ⟨#[]⟩) := HH3.out.zero.cell 1
      have d2 : w3.cell? ⟨w.heap.size + 1, 2, none⟩ = some (.int .i64 0) := HH3.out.zero.cell 2
      have d3 : w3.cell? ⟨w.heap.size + 1, 3, none⟩ = some (.slice none 0 0) := HH3.out.zero.cell 3
      have f0 : w3.frozen? ⟨w.heap.size + 1, 0, none⟩ = false := HH3.out.zero.free 0
      have f1 : w3.frozen? ⟨w.heap.size + 1, 1, none⟩ = false := HH3.out.zero.free 1
      have f2 : w3.frozen? ⟨w.heap.size + 1, 2, none⟩ = false := HH3.out.zero.free 2
      have f3 : w3.frozen? ⟨w.heap.size + 1, 3, none⟩ = false := HH3.out.zero.free 3
      go_wp2
      exact bodyPost_ret (v := .tuple #[.agg #[.int .i64 2, .string (s.extract j2 k2), .int .i64 0, .slice none 0 0], .bool true]) (by simp [results, Tryz.results18, go_sem, d0, d1, d2, d3]) rfl (HH3.out.yes HX.out (OwnOt.leaf _ _ 2 0 _ hwz) _ _ _ _)
    | none =>
      have E46 := Lib.hid hx
      have HC := Lib.hid (accE_no ps pa j s ⟨#[46]⟩ w40 HH40.out.rd.rd ((eats_one 46 _).trans hx))
      clear hx
      go_wp2_with fail
      refine HC.out.mono ?_
      rintro e w46 ⟨rfl, hr2, hg2⟩
      have HH46 := Lib.hid (HH40.out.read hr2 hg2)
      clear hr2 hg2 b0 b1 b2
      have b0 : w46.cell? ⟨w.heap.size, 0, none⟩ = some (rdAcc ps pa) := HH46.out.rdr.cell 0
      have b1 : w46.cell? ⟨w.heap.size, 1, none⟩ = some (rdTak ps pa) := HH46.out.rdr.cell 1
      have b2 : w46.cell? ⟨w.heap.size, 2, none⟩ = some (rdEnd ps pa) := HH46.out.rdr.cell 2
      cases hx : eat 63 (restOf s j) with
      | some q1 =>
        have hx1 := (eats_one 63 _).trans hx
        obtain ⟨hle1, rfl⟩ := eats_rest (p := ⟨#[63]⟩) HH46.out.rd.rd.le hx1
        have HXS := Lib.hid hx
        have HC := Lib.hid (accE_yes ps pa j s ⟨#[63]⟩ _ w46 HH46.out.rd.rd hs hx1)
        clear hx hx1
        generalize j + (⟨#[63]⟩ : ByteArray).size = j2 at *
        go_wp2_with fail
        refine HC.out.mono ?_
        rintro e w2 ⟨rfl, hr2, hg2⟩
        have HH2 := Lib.hid (HH46.out.read hr2 hg2)
        clear hr2 hg2 b0 b1 b2
        have b0 : w2.cell? ⟨w.heap.size, 0, none⟩ = some (rdAcc ps pa) := HH2.out.rdr.cell 0
        have b1 : w2.cell? ⟨w.heap.size, 1, none⟩ = some (rdTak ps pa) := HH2.out.rdr.cell 1
        have b2 : w2.cell? ⟨w.heap.size, 2, none⟩ = some (rdEnd ps pa) := HH2.out.rdr.cell 2
        have HT := Lib.hid (takeRun_any 43 enters_name nameR wordC nameR_byte nameR_high pred_name ps pa j2 s w2 HH2.out.rd.rd hs)
        go_wp2_with fail
        refine HT.out.mono ?_
        rintro e w3 ⟨k2, hk2, ⟨rfl, hr3, hg3⟩, hd3, ht3⟩
        have HH3 := Lib.hid (HH2.out.read hr3 hg3)
        have hwz : (s.extract j2 k2).size ≤ maxLen := by rw [ByteArray.size_extract]; unfold maxLen; omega
        have HX := Lib.hid (show rdOi (n + 1) (restOf s j) = some (.mk 3 0 (s.extract j2 k2) [], restOf s k2) by simp only [rdOi, E40.out, E46.out, HXS.out, rdNm, ht3, hd3])
        clear hr3 hg3 hd3 ht3 b0 b1 b2
        have d0 : w3.cell? ⟨w.heap.size + 1, 0, none⟩ = some (.int .i64 0) := HH3.out.zero.cell 0
        have d1 : w3.cell? ⟨w.heap.size + 1, 1, none⟩ = some (.string ⟨#[]⟩) := HH3.out.zero.cell 1
        have d2 : w3.cell? ⟨w.heap.size + 1, 2, none⟩ = some (.int .i64 0) := HH3.out.zero.cell 2
        have d3 : w3.cell? ⟨w.heap.size + 1, 3, none⟩ = some (.slice none 0 0) := HH3.out.zero.cell 3
        have f0 : w3.frozen? ⟨w.heap.size + 1, 0, none⟩ = false := HH3.out.zero.free 0
        have f1 : w3.frozen? ⟨w.heap.size + 1, 1, none⟩ = false := HH3.out.zero.free 1
        have f2 : w3.frozen? ⟨w.heap.size + 1, 2, none⟩ = false := HH3.out.zero.free 2
        have f3 : w3.frozen? ⟨w.heap.size + 1, 3, none⟩ = false := HH3.out.zero.free 3
        go_wp2
        exact bodyPost_ret (v := .tuple #[.agg #[.int .i64 3, .string (s.extract j2 k2), .int .i64 0, .slice none 0 0], .bool true]) (by simp [results, Tryz.results18, go_sem, d0, d1, d2, d3]) rfl (HH3.out.yes HX.out (OwnOt.leaf _ _ 3 0 _ hwz) _ _ _ _)
      | none =>
        have E63 := Lib.hid hx
        have HC := Lib.hid (accE_no ps pa j s ⟨#[63]⟩ w46 HH46.out.rd.rd ((eats_one 63 _).trans hx))
        clear hx
        go_wp2_with fail
        refine HC.out.mono ?_
        rintro e w63 ⟨rfl, hr2, hg2⟩
        have HH63 := Lib.hid (HH46.out.read hr2 hg2)
        clear hr2 hg2 b0 b1 b2
        have HX := Lib.hid (show rdOi (n + 1) (restOf s j) = rdWordO (rdOi n) ((restOf s j).takeWhile wordC) ((restOf s j).dropWhile wordC) by simp only [rdOi, E40.out, E46.out, E63.out])
        have HW := Lib.hid (HWR.out B w63 ps pa j s HH63.out.rd hs)
        have hz63 := HH63.out.zero.lt
        have b0 : w63.cell? ⟨w.heap.size, 0, none⟩ = some (rdAcc ps pa) := HH63.out.rdr.cell 0
        have b1 : w63.cell? ⟨w.heap.size, 1, none⟩ = some (rdTak ps pa) := HH63.out.rdr.cell 1
        have b2 : w63.cell? ⟨w.heap.size, 2, none⟩ = some (rdEnd ps pa) := HH63.out.rdr.cell 2
        go_wp2_with fail
        refine HW.out.mono ?_
        rintro e w3 ⟨k3, nm3, n3, A3, m3, ac3, ok3, j3, rfl, hr3, hg3, hor⟩
        have HH3 := Lib.hid (HH63.out.read' hr3 hg3)
        have hor2 : (ok3 = false ∧ rdOi (n + 1) (restOf s j) = none) ∨ (ok3 = true ∧ ∃ t, rdOi (n + 1) (restOf s j) = some (t, restOf s j3) ∧ OwnOt w3 (w.heap.size + 2) (.agg #[.int .i64 k3, .string nm3, .int .i64 n3, .slice A3 m3 ac3]) t) := by
          rw [HX.out]
          exact hor.imp id fun ⟨h1, t, h2, h3⟩ => ⟨h1, t, h2, h3.base (by omega)⟩
        have HOR := Lib.hid hor2
        clear hr3 hg3 hor hor2 b0 b1 b2
        have d0 : w3.cell? ⟨w.heap.size + 1, 0, none⟩ = some (.int .i64 0) := HH3.out.zero.cell 0
        have d1 : w3.cell? ⟨w.heap.size + 1, 1, none⟩ = some (.string ⟨#[]⟩) := HH3.out.zero.cell 1
        have d2 : w3.cell? ⟨w.heap.size + 1, 2, none⟩ = some (.int .i64 0) := HH3.out.zero.cell 2
        have d3 : w3.cell? ⟨w.heap.size + 1, 3, none⟩ = some (.slice none 0 0) := HH3.out.zero.cell 3
        have f0 : w3.frozen? ⟨w.heap.size + 1, 0, none⟩ = false := HH3.out.zero.free 0
        have f1 : w3.frozen? ⟨w.heap.size + 1, 1, none⟩ = false := HH3.out.zero.free 1
        have f2 : w3.frozen? ⟨w.heap.size + 1, 2, none⟩ = false := HH3.out.zero.free 2
        have f3 : w3.frozen? ⟨w.heap.size + 1, 3, none⟩ = false := HH3.out.zero.free 3
        go_wp2
        exact bodyPost_ret (v := .tuple #[.agg #[.int .i64 k3, .string nm3, .int .i64 n3, .slice A3 m3 ac3], .bool ok3]) (by simp [results, Tryz.results18, go_sem, d0, d1, d2, d3]) rfl (HH3.out.pass HOR.out _ _ _ _)
theorem readR_all : ∀ (n : Nat), n ≤ 10 → ReadR n (n : Int)
  | 0, _ => readR_zero
  | n + 1, hn => readR_succ n _ (n : Int) (by rw [beq_eq_false_iff_ne]; omega) (by rw [IntKind.wrap_i64]; omega) (readR_all n (by omega))

end Go.Proofs.YtlmbnefoobameaaGreatDoor.OI
end

section
namespace Go.Proofs.YtlmbnefoobameaaGreatDoor
open Go Go.RowKit
attribute [local go_sem ↓] Go.wp_at_zero Go.wp_at_succ

theorem rest_zeroI (s : ByteArray) : restOf s 0 = s.data.toList := by simp [restOf]
theorem parseO_here {s : ByteArray} {t : Ot} (h : rdOi 10 (restOf s 0) = some (t, [])) : parseOB s = if opticB t = true then some t else none := by
  rw [parseOB_oi, ← rest_zeroI, h]
theorem parseO_no {s : ByteArray} (h : rdOi 10 (restOf s 0) = none) : parseOB s = none := by
  rw [parseOB_oi, ← rest_zeroI, h]
theorem parseO_more {s : ByteArray} {t : Ot} {q : List UInt8} (h : rdOi 10 (restOf s 0) = some (t, q)) (hq : q ≠ []) : parseOB s = none := by
  rw [parseOB_oi, ← rest_zeroI, h]
  cases q with
  | nil => exact absurd rfl hq
  | cons a q => rfl
theorem grown_lowO {w w1 W : World} {p : Nat} (hb : Below w.heap.size w w1) (hg : w1.grownBy W (some p)) (hp : w.heap.size ≤ p) : Below w.heap.size w W :=
  ⟨hg.os.trans hb.os, hg.tape.trans hb.tape, hg.output.trans hb.output, Nat.le_trans hb.size hg.size, fun q hq => (hg.block q (Nat.lt_of_lt_of_le hq hb.size) (fun e => by injection e with e; omega)).trans (hb.block q hq)⟩

set_option maxHeartbeats 8000000 in
set_option maxRecDepth 100000 in
theorem implParseO_any (s : ByteArray) (w : World) (hs : s.size ≤ 1048576) (hN : OI.NumsO w w.heap.size) : Calls Tryz.prog 7 #[.string s] w (ParsePostO s w) := by
  obtain ⟨hb0, z0, hs0⟩ := boxes1 w 26 #[.int .i64 0, .string ⟨#[]⟩, .int .i64 0, .slice none 0 0]
  have HRO := Lib.hid (fun W => readerOf_any s W)
  have HTY := Lib.hid (OI.readR_all 10 (Nat.le_refl _))
  have HV := Lib.hid (fun t V W h hsz => implIsOptic_any t V W h hsz)
  have HN := Lib.hid hN
  clear hN
  go_enter Tryz.func7, Tryz.ntmps7
  go_upto_region 1 with fail
  generalize w.alloc (.cells #[.int .i64 0, .string ⟨#[]⟩, .int .i64 0, .slice none 0 0] 26) = wa at *
  go_wp2_with fail
  refine (HRO.out wa).mono ?_
  rintro e w1 ⟨ps, pa, rfl, hr1, hb1, hps, hpa⟩
  have z1 := z0.below hb1 z0.lt
  have hB1 := hb0.trans (hb1.mono hb0.size)
  have hws : w.heap.size < wa.heap.size := z0.lt
  clear hb0 hb1 z0 hs0
  obtain ⟨hb2, y2, hs2⟩ := boxes1 w1 41 #[rdAcc ps pa, rdTak ps pa, rdEnd ps pa]
  have r2 := hr1.below hb2 hr1.lts hr1.lta
  have Y2 : Hid (Whole1 (w1.alloc (.cells #[rdAcc ps pa, rdTak ps pa, rdEnd ps pa] 41)) w1.heap.size 41 #[rdAcc ps pa, rdTak ps pa, rdEnd ps pa]) := Lib.hid y2
  have z2 := z1.below hb2 z1.lt
  have hB2 := hB1.trans (hb2.mono hB1.size)
  have hpal := hr1.lta
  have hpsl := hr1.lts
  have hb12 := hB1.size
  clear hr1 z1 hb2 hB1 y2
  go_upto_region 2 with fail
  generalize hy1 : w1.heap.size = y1 at *
  generalize w1.alloc (.cells #[rdAcc ps pa, rdTak ps pa, rdEnd ps pa] 41) = w2 at *
  have HVR : Hid (OI.RO w.heap.size w2 ps pa s 0) := Lib.hid ⟨r2, HN.out.below hB2, by omega, by omega⟩
  have Z2 : Hid (Whole1 w2 w.heap.size 26 #[.int .i64 0, .string ⟨#[]⟩, .int .i64 0, .slice none 0 0]) := Lib.hid z2
  have B2 := Lib.hid hB2
  clear z2 r2 hB2
  have b0 : w2.cell? ⟨y1, 0, none⟩ = some (rdAcc ps pa) := Y2.out.cell 0
  have b1 : w2.cell? ⟨y1, 1, none⟩ = some (rdTak ps pa) := Y2.out.cell 1
  have b2 : w2.cell? ⟨y1, 2, none⟩ = some (rdEnd ps pa) := Y2.out.cell 2
  have HCC := Lib.hid (HTY.out w.heap.size w2 ps pa 0 s HVR.out hs)
  go_wp2_with fail
  refine HCC.out.mono ?_
  rintro e w3 ⟨k, nm, n, A, na, ac, ok, j5, rfl, hv3, hg3, hcase⟩
  have hw2 := B2.out.size
  have hz3 : Whole1 w3 w.heap.size 26 #[.int .i64 0, .string ⟨#[]⟩, .int .i64 0, .slice none 0 0] := Z2.out.grownO hg3 (by omega)
  have hy3 := Y2.out.grownO hg3 (by omega)
  have hB3 : Below w.heap.size w w3 := grown_lowO B2.out hg3 (by omega)
  have hw23 := hg3.size
  obtain ⟨hb4, x4, hs4⟩ := boxes1 w3 26 #[.int .i64 k, .string nm, .int .i64 n, .slice A na ac]
  have HZ4 := Lib.hid (hz3.below hb4 hz3.lt)
  have HY4 := Lib.hid (hy3.below hb4 hy3.lt)
  have HV4 := Lib.hid (hv3.keep hb4)
  have HB4 := Lib.hid (hB3.trans (hb4.mono hB3.size))
  have HX4 : Hid (Whole1 (w3.alloc (.cells #[.int .i64 k, .string nm, .int .i64 n, .slice A na ac] 26)) w3.heap.size 26 #[.int .i64 k, .string nm, .int .i64 n, .slice A na ac]) := Lib.hid x4
  have HC : Hid ((ok = false ∧ rdOi 10 (restOf s 0) = none) ∨ ok = true ∧ ∃ t, rdOi 10 (restOf s 0) = some (t, restOf s j5) ∧ OwnOt (w3.alloc (.cells #[.int .i64 k, .string nm, .int .i64 n, .slice A na ac] 26)) w2.heap.size (.agg #[.int .i64 k, .string nm, .int .i64 n, .slice A na ac]) t) := Lib.hid (hcase.imp id fun ⟨h1, t, h2, h5⟩ => ⟨h1, t, h2, h5.keep hb4.size fun g _ hl => hb4.block g hl⟩)
  have hj5 := hv3.rd.le
  clear hz3 hv3 hB3 hb4 x4 hcase hg3 hy3 b0 b1 b2
  go_upto_region 3 with fail
  have HS4 := Lib.hid hs4
  clear hs4
  generalize w3.alloc (.cells #[.int .i64 k, .string nm, .int .i64 n, .slice A na ac] 26) = w4 at *
  have d0 : w4.cell? ⟨w.heap.size, 0, none⟩ = some (.int .i64 0) := HZ4.out.cell 0
  have d1 : w4.cell? ⟨w.heap.size, 1, none⟩ = some (.string ⟨#[]⟩) := HZ4.out.cell 1
  have d2 : w4.cell? ⟨w.heap.size, 2, none⟩ = some (.int .i64 0) := HZ4.out.cell 2
  have d3 : w4.cell? ⟨w.heap.size, 3, none⟩ = some (.slice none 0 0) := HZ4.out.cell 3
  have f0 : w4.frozen? ⟨w.heap.size, 0, none⟩ = false := HZ4.out.free 0
  have f1 : w4.frozen? ⟨w.heap.size, 1, none⟩ = false := HZ4.out.free 1
  have f2 : w4.frozen? ⟨w.heap.size, 2, none⟩ = false := HZ4.out.free 2
  have f3 : w4.frozen? ⟨w.heap.size, 3, none⟩ = false := HZ4.out.free 3
  have BAD : Hid (∀ W : World, Below w.heap.size w W → parseOB s = none → ParsePostO s w (.returned (.tuple #[.agg #[.int .i64 0, .string ⟨#[]⟩, .int .i64 0, .slice none 0 0], .bool false])) W) := Lib.hid fun W hW hno => ⟨_, by rw [hno]; rfl, by rw [hno]; exact ozero_in _ _, hW⟩
  cases ok with
  | false =>
    have HNO : Hid (parseOB s = none) := Lib.hid (by
      rcases HC.out with ⟨_, h⟩ | ⟨h, _⟩
      · exact parseO_no h
      · cases h)
    clear HC
    go_wp2
    exact bodyPost_ret (v := .tuple #[.agg #[.int .i64 0, .string ⟨#[]⟩, .int .i64 0, .slice none 0 0], .bool false]) (by simp [results, Tryz.results7, go_sem, d0, d1, d2, d3]) rfl (BAD.out _ (HB4.out.trans (oset4_below _ _ _ _ _ _)) HNO.out)
  | true =>
    obtain ⟨t, hx, hown⟩ : ∃ t, rdOi 10 (restOf s 0) = some (t, restOf s j5) ∧ OwnOt w4 w2.heap.size (.agg #[.int .i64 k, .string nm, .int .i64 n, .slice A na ac]) t := by
      rcases HC.out with ⟨h, _⟩ | ⟨_, h⟩
      · cases h
      · exact h
    have HX := Lib.hid hx
    have HI4 := Lib.hid hown.owned
    have hszv : sizeOt t ≤ 2000000 := by
      obtain ⟨h1, h2⟩ := rdOi_sound 10 _ _ _ hx
      have h3 := congrArg List.length h1
      have h4 := size_le_szO t
      rw [List.length_append, restOf_len] at h3
      omega
    have HNB := Lib.hid hszv
    clear HC hx hown hszv
    have y2 : w4.cell? ⟨y1, 2, none⟩ = some (rdEnd ps pa) := HY4.out.cell 2
    have x0 : w4.cell? ⟨w3.heap.size, 0, none⟩ = some (.int .i64 k) := HX4.out.cell 0
    have x1 : w4.cell? ⟨w3.heap.size, 1, none⟩ = some (.string nm) := HX4.out.cell 1
    have x2 : w4.cell? ⟨w3.heap.size, 2, none⟩ = some (.int .i64 n) := HX4.out.cell 2
    have x3 : w4.cell? ⟨w3.heap.size, 3, none⟩ = some (.slice A na ac) := HX4.out.cell 3
    have hE := end_any ps pa j5 s w4 HV4.out.rd
    by_cases hj : j5 = s.size
    · rw [decide_eq_true hj] at hE
      have HE := Lib.hid hE
      have HX2 : Hid (rdOi 10 (restOf s 0) = some (t, [])) := Lib.hid (by rw [HX.out, restOf_end s _ (by omega)])
      have hOT : OwnO w4 (.agg #[.int .i64 k, .string nm, .int .i64 n, .slice A na ac]) t := OwnO.of HI4.out
      have HVT := Lib.hid (HV.out t _ w4 hOT HNB.out)
      clear hE hOT HX
      go_wp2_with fail
      refine HE.out.mono ?_
      rintro e w4' ⟨rfl, rfl⟩
      go_wp2_with fail
      refine HVT.out.mono ?_
      rintro e w5 ⟨rfl, hb5⟩
      have z5 := HZ4.out.below hb5 HZ4.out.lt
      have hB5 := Lib.hid (HB4.out.trans (hb5.mono HB4.out.size))
      have hX5 := HX4.out.below hb5 HX4.out.lt
      have HI5 := Lib.hid (HI4.out.keep fun b hb hl => hb5.block b hl)
      have hz5 := hb5.size
      have hw34 := HX4.out.lt
      clear d0 d1 d2 d3 f0 f1 f2 f3
      have q0 : w5.cell? ⟨w3.heap.size, 0, none⟩ = some (.int .i64 k) := hX5.cell 0
      have q1 : w5.cell? ⟨w3.heap.size, 1, none⟩ = some (.string nm) := hX5.cell 1
      have q2 : w5.cell? ⟨w3.heap.size, 2, none⟩ = some (.int .i64 n) := hX5.cell 2
      have q3 : w5.cell? ⟨w3.heap.size, 3, none⟩ = some (.slice A na ac) := hX5.cell 3
      have d0 : w5.cell? ⟨w.heap.size, 0, none⟩ = some (.int .i64 0) := z5.cell 0
      have d1 : w5.cell? ⟨w.heap.size, 1, none⟩ = some (.string ⟨#[]⟩) := z5.cell 1
      have d2 : w5.cell? ⟨w.heap.size, 2, none⟩ = some (.int .i64 0) := z5.cell 2
      have d3 : w5.cell? ⟨w.heap.size, 3, none⟩ = some (.slice none 0 0) := z5.cell 3
      have f0 : w5.frozen? ⟨w.heap.size, 0, none⟩ = false := z5.free 0
      have f1 : w5.frozen? ⟨w.heap.size, 1, none⟩ = false := z5.free 1
      have f2 : w5.frozen? ⟨w.heap.size, 2, none⟩ = false := z5.free 2
      have f3 : w5.frozen? ⟨w.heap.size, 3, none⟩ = false := z5.free 3
      clear z5 hb5 hX5 x0 x1 x2 x3 y2
      cases hvb : opticB t
      · have HNO : Hid (parseOB s = none) := Lib.hid (by rw [parseO_here HX2.out, hvb]; rfl)
        clear hvb
        go_wp2
        exact bodyPost_ret (v := .tuple #[.agg #[.int .i64 0, .string ⟨#[]⟩, .int .i64 0, .slice none 0 0], .bool false]) (by simp [results, Tryz.results7, go_sem, d0, d1, d2, d3]) rfl (BAD.out _ (hB5.out.trans (oset4_below _ _ _ _ _ _)) HNO.out)
      · have HYES : Hid (parseOB s = some t) := Lib.hid (by rw [parseO_here HX2.out, hvb]; rfl)
        clear hvb BAD
        go_wp2
        exact bodyPost_ret (v := .tuple #[.agg #[.int .i64 k, .string nm, .int .i64 n, .slice A na ac], .bool true]) (by simp [results, Tryz.results7, go_sem, d0, d1, d2, d3]) rfl (⟨_, by rw [HYES.out]; rfl, by rw [HYES.out]; exact oIn_set4 HI5.out (by omega) (by omega) _ _ _ _, hB5.out.trans (oset4_below _ _ _ _ _ _)⟩)
    · rw [decide_eq_false hj] at hE
      have HE := Lib.hid hE
      have HNO : Hid (parseOB s = none) := Lib.hid (parseO_more HX.out (fun e => by
        have := congrArg List.length e
        rw [restOf_len] at this
        simp at this
        omega))
      clear hE x0 x1 x2 x3
      go_wp2_with fail
      refine HE.out.mono ?_
      rintro e w4' ⟨rfl, rfl⟩
      go_wp2
      exact bodyPost_ret (v := .tuple #[.agg #[.int .i64 0, .string ⟨#[]⟩, .int .i64 0, .slice none 0 0], .bool false]) (by simp [results, Tryz.results7, go_sem, d0, d1, d2, d3]) rfl (BAD.out _ (HB4.out.trans (oset4_below _ _ _ _ _ _)) HNO.out)

end Go.Proofs.YtlmbnefoobameaaGreatDoor
end
