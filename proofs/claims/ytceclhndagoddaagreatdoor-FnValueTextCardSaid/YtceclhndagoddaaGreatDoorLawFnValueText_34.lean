/- Lemmas: RCase. -/
import Derived.Test.YtceclhndagoddaaGreatDoorLawFnValueText_33
import Derived.Test.YtceclhndagoddaaGreatDoorLawFnValueText_5
import Derived.Test.YtceclhndagoddaaGreatDoorLawFnValueText_18
import Derived.Deep.RegionHeld3
import Derived.Deep.DrawnRows

namespace Go.Proofs.YtceclhndagoddaaGreatDoor
open Go Go.RowKit
attribute [local go_sem ↓] Go.wp_at_zero Go.wp_at_succ

theorem tag_none {f : List UInt8 → Option (Va × List UInt8)} {l : List UInt8} (h : eat 32 (l.dropWhile wordC) = none) : rdTag f l = none := by
  unfold rdTag
  rw [h]
theorem tag_bad {f : List UInt8 → Option (Va × List UInt8)} {l r : List UInt8} {m : Nat} (h : eat 32 (l.dropWhile wordC) = some r) (hb : BadV m (f r)) : BadV (m + 1) (rdTag f l) := by
  intro b q hx
  unfold rdTag at hx
  rw [h] at hx
  simp only at hx
  cases hf : f r with
  | none =>
    rw [hf] at hx
    cases hx
  | some pr =>
    obtain ⟨t, q0⟩ := pr
    rw [hf] at hx
    simp only at hx
    cases h62 : eat 62 q0 with
    | none =>
      rw [h62] at hx
      cases hx
    | some q2 =>
      rw [h62] at hx
      simp only [Option.some.injEq, Prod.mk.injEq] at hx
      obtain ⟨rfl, rfl⟩ := hx
      rcases hb _ _ hf with h1 | h1 | h1
      · exact Or.inl (by rw [formVa, formVas, h1]; rfl)
      · exact Or.inr (Or.inl (by rw [sizeVa, sizeVas, sizeVas]; omega))
      · rw [eat_head (by decide) h1] at h62
        cases h62
theorem tag_stop {f : List UInt8 → Option (Va × List UInt8)} {l r q : List UInt8} {t : Va} (h : eat 32 (l.dropWhile wordC) = some r) (hf : f r = some (t, q)) (h2 : eat 62 q = none) : rdTag f l = none := by
  unfold rdTag
  rw [h]
  simp only [hf, h2]
theorem tag_some {f : List UInt8 → Option (Va × List UInt8)} {l r q q2 : List UInt8} {t : Va} (h : eat 32 (l.dropWhile wordC) = some r) (hf : f r = some (t, q)) (h2 : eat 62 q = some q2) : rdTag f l = some (.mk 4 0 ⟨(l.takeWhile wordC).toArray⟩ [] [t], q2) := by
  unfold rdTag
  rw [h]
  simp only [hf, h2]

theorem set5_cell (w : World) (r : Nat) (a b c d e : Value) (g i : Nat) (hg : g ≠ r) : (((((w.setCell ⟨r, 0, none⟩ a).setCell ⟨r, 1, none⟩ b).setCell ⟨r, 2, none⟩ c).setCell ⟨r, 3, none⟩ d).setCell ⟨r, 4, none⟩ e).cell? ⟨g, i, none⟩ = w.cell? ⟨g, i, none⟩ := by
  rw [World.cell?_setCell_far _ _ _ _ (fun e => hg e.symm), World.cell?_setCell_far _ _ _ _ (fun e => hg e.symm), World.cell?_setCell_far _ _ _ _ (fun e => hg e.symm), World.cell?_setCell_far _ _ _ _ (fun e => hg e.symm), World.cell?_setCell_far _ _ _ _ (fun e => hg e.symm)]
theorem set5_below (w : World) (r : Nat) (a b c d e : Value) : Below r w (((((w.setCell ⟨r, 0, none⟩ a).setCell ⟨r, 1, none⟩ b).setCell ⟨r, 2, none⟩ c).setCell ⟨r, 3, none⟩ d).setCell ⟨r, 4, none⟩ e) :=
  (((((Below.refl r w).setCell (p := ⟨r, 0, none⟩) (Nat.le_refl _) _).setCell (p := ⟨r, 1, none⟩) (Nat.le_refl _) _).setCell (p := ⟨r, 2, none⟩) (Nat.le_refl _) _).setCell (p := ⟨r, 3, none⟩) (Nat.le_refl _) _).setCell (p := ⟨r, 4, none⟩) (Nat.le_refl _) _
theorem OwnVa.set5 {w : World} {base : Nat} {v : Value} {t : Va} (h : OwnVa w base v t) (r : Nat) (hr : r < base) (a b c d e : Value) : OwnVa (((((w.setCell ⟨r, 0, none⟩ a).setCell ⟨r, 1, none⟩ b).setCell ⟨r, 2, none⟩ c).setCell ⟨r, 3, none⟩ d).setCell ⟨r, 4, none⟩ e) base v t :=
  h.keep (set5_below w r a b c d e).size fun g hg _ => set5_keep _ _ _ _ _ _ _ _ (by omega)
/-- A node over one tree that lies there. -/
theorem own_one {w1 : World} {base lo0 hi0 : Nat} {a b c d e : Value} {t : Va} (k n : Int) (nm : ByteArray) (hnm : nm.size ≤ maxLen) (hb : base ≤ lo0) (hl : lo0 ≤ w1.heap.size) (hs : hi0 ≤ w1.heap.size) (ht : VaIn w1 (Span lo0 hi0) (.agg #[a, b, c, d, e]) t) :
    ∃ xs vs lo hi, OwnVAt (w1.alloc (.cells #[a, b, c, d, e] 27)) base none 0 (some ⟨w1.heap.size, 0, none⟩) 1 (.mk k n nm [] [t]) xs vs lo hi := by
  obtain ⟨xs, vs, lo, hi, hG⟩ := vgather_one hb hl (ht.wide fun b hb => ⟨hb.1, by have := hb.2; omega⟩)
  exact ⟨xs, vs, lo, hi, hnm, fun i h => absurd h (by simp [Va.labels]), by unfold maxLen; simp [Va.args], World.ownsRow_nil _ _ _ 1, hG, fun gl h => by cases h⟩
theorem grown_undrew {w w' : World} {p : Option Nat} (h : w.drew.grownBy w' p) : w.grownBy w' p := ⟨h.os, h.tape, h.output, h.size, h.block⟩

set_option maxHeartbeats 8000000 in
set_option maxRecDepth 100000 in
theorem readCase_any (n m : Nat) (H : ValR n m) (B : Nat) (w : World) (ps pa pr j : Nat) (s : ByteArray) (hv : VR B w ps pa pr s j m) (hs : s.size ≤ 1048576) :
    Calls Tryz.prog 44 #[.pointer (some ⟨pr, 0, none⟩)] w (ValPost B ps pa pr s (m + 1) w (rdTag (rdVa n) (restOf s j))) := by
  have hl1 := hv.lts
  have hl2 := hv.lta
  have hl3 := hv.ltr
  obtain ⟨hb0, z0, hs0⟩ := boxes1 w 27 #[.int .i64 0, .int .i64 0, .string ⟨#[]⟩, .slice none 0 0, .slice none 0 0]
  have HV0 := Lib.hid (hv.keep hb0)
  have HB0 := Lib.hid hb0
  have HZ0 := Lib.hid z0
  have HVR := Lib.hid H
  clear H hv hb0 z0 hs0
  go_enter Tryz.func44, Tryz.ntmps44
  go_upto_region 1 with fail
  generalize w.alloc (.cells #[.int .i64 0, .int .i64 0, .string ⟨#[]⟩, .slice none 0 0, .slice none 0 0] 27) = wa at *
  have hwl : w.heap.size < wa.heap.size := HZ0.out.lt
  have HC := Lib.hid (takeRun_any 76 enters_name nameR wordC nameR_byte nameR_high pred_name ps pa j s wa HV0.out.rd hs)
  have b0 : wa.cell? ⟨pr, 0, none⟩ = some (rdAcc ps pa) := HV0.out.obj.cell 0
  have b1 : wa.cell? ⟨pr, 1, none⟩ = some (rdTak ps pa) := HV0.out.obj.cell 1
  have b2 : wa.cell? ⟨pr, 2, none⟩ = some (rdEnd ps pa) := HV0.out.obj.cell 2
  go_wp2_with fail
  refine HC.out.mono ?_
  rintro e w1 ⟨k1, hk1, ⟨rfl, hr1, hg1⟩, hd1, ht1⟩
  have HV1 := Lib.hid (HV0.out.read hr1 hg1)
  have hT1 := Turn.of_grown hg1 (X := vrX pa pr) (Or.inl rfl)
  have HT1 := Lib.hid ((Turn.of_below HB0.out).trans hT1)
  have HZ1 := Lib.hid (turn_stays hT1 HZ0.out (by omega) (by omega))
  have hsz1 := hT1.size
  have hwz : (s.extract j k1).size ≤ 1048576 := by rw [ByteArray.size_extract]; omega
  have HD1 := Lib.hid (And.intro hd1 ht1)
  clear hr1 hg1 hT1 HC HV0 HB0 HZ0 hd1 ht1 b0 b1 b2
  have b0 : w1.cell? ⟨pr, 0, none⟩ = some (rdAcc ps pa) := HV1.out.obj.cell 0
  have b1 : w1.cell? ⟨pr, 1, none⟩ = some (rdTak ps pa) := HV1.out.obj.cell 1
  have b2 : w1.cell? ⟨pr, 2, none⟩ = some (rdEnd ps pa) := HV1.out.obj.cell 2
  cases hx : eat 32 (restOf s k1) with
  | none =>
    have HX := Lib.hid (tag_none (f := rdVa n) (l := restOf s j) (by rw [HD1.out.1]; exact hx))
    have HC := Lib.hid (accE_no ps pa k1 s ⟨#[32]⟩ w1 HV1.out.rd ((eats_one 32 _).trans hx))
    clear hx
    go_wp2_with fail
    refine HC.out.mono ?_
    rintro e w2 ⟨rfl, hr2, hg2⟩
    have hT2 := Turn.of_grown hg2 (X := vrX pa pr) (Or.inl rfl)
    have HV2 := Lib.hid (HV1.out.read hr2 hg2)
    have HT2 := Lib.hid (HT1.out.trans hT2)
    have HZ2 := Lib.hid (turn_stays hT2 HZ1.out (by omega) (by omega))
    clear hr2 hg2 hT2 HC HV1 HT1 HZ1 b0 b1 b2
    have d0 : w2.cell? ⟨w.heap.size, 0, none⟩ = some (.int .i64 0) := HZ2.out.cell 0
    have d1 : w2.cell? ⟨w.heap.size, 1, none⟩ = some (.int .i64 0) := HZ2.out.cell 1
    have d2 : w2.cell? ⟨w.heap.size, 2, none⟩ = some (.string ⟨#[]⟩) := HZ2.out.cell 2
    have d3 : w2.cell? ⟨w.heap.size, 3, none⟩ = some (.slice none 0 0) := HZ2.out.cell 3
    have d4 : w2.cell? ⟨w.heap.size, 4, none⟩ = some (.slice none 0 0) := HZ2.out.cell 4
    have f0 : w2.frozen? ⟨w.heap.size, 0, none⟩ = false := HZ2.out.free 0
    have f1 : w2.frozen? ⟨w.heap.size, 1, none⟩ = false := HZ2.out.free 1
    have f2 : w2.frozen? ⟨w.heap.size, 2, none⟩ = false := HZ2.out.free 2
    have f3 : w2.frozen? ⟨w.heap.size, 3, none⟩ = false := HZ2.out.free 3
    have f4 : w2.frozen? ⟨w.heap.size, 4, none⟩ = false := HZ2.out.free 4
    go_wp2
    exact bodyPost_ret (v := .tuple #[.agg #[.int .i64 0, .int .i64 0, .string ⟨#[]⟩, .slice none 0 0, .slice none 0 0], .bool false]) (by simp [results, Tryz.results44, go_sem, d0, d1, d2, d3, d4]) rfl ⟨0, 0, ⟨#[]⟩, none, 0, 0, none, 0, 0, false, _, _, rfl, HV2.out.below (set5_below _ _ _ _ _ _ _) hl1 hl2 hl3, HT2.out.below (set5_below _ _ _ _ _ _ _) (Nat.le_refl _), Or.inl ⟨rfl, by rw [HX.out]; exact Bad.none _ _ _⟩⟩
  | some q1 =>
    have hx1 := (eats_one 32 _).trans hx
    obtain ⟨hle1, rfl⟩ := eats_rest (p := ⟨#[32]⟩) HV1.out.rd.le hx1
    have HX := Lib.hid (show eat 32 ((restOf s j).dropWhile wordC) = some (restOf s (k1 + (⟨#[32]⟩ : ByteArray).size)) by rw [HD1.out.1]; exact hx)
    have HC := Lib.hid (accE_yes ps pa k1 s ⟨#[32]⟩ _ w1 HV1.out.rd hs hx1)
    clear hx hx1
    generalize k1 + (⟨#[32]⟩ : ByteArray).size = k2 at *
    go_wp2_with fail
    refine HC.out.mono ?_
    rintro e w2 ⟨rfl, hr2, hg2⟩
    have hT2 := Turn.of_grown hg2 (X := vrX pa pr) (Or.inl rfl)
    have HV2 := Lib.hid (HV1.out.read hr2 hg2)
    have HT2 := Lib.hid (HT1.out.trans hT2)
    have HZ2 := Lib.hid (turn_stays hT2 HZ1.out (by omega) (by omega))
    have hsz2 := hT2.size
    have HCV := Lib.hid (HVR.out B w2 ps pa pr k2 s HV2.out hs)
    clear hr2 hg2 hT2 HC HV1 HT1 HZ1 b0 b1 b2
    go_wp2_with fail
    refine HCV.out.mono ?_
    rintro e w3 ⟨k, n0, nm, L, nl, lc, A, na, ac, ok, j3, m3, rfl, hv3, hT3, hor⟩
    have HV3 := Lib.hid hv3
    have HT3 := Lib.hid (HT2.out.trans hT3)
    have HZ3 := Lib.hid (turn_stays hT3 HZ2.out (by omega) (by omega))
    have HOR := Lib.hid hor
    have hsz3 := hT3.size
    clear hv3 hT3 hor HCV HV2 HT2 HZ2
    go_upto_region 5 with fail
    have HQ4 := Lib.hid (Whole1.new w3 27 #[.int .i64 k, .int .i64 n0, .string nm, .slice L nl lc, .slice A na ac])
    have hb4 := (Below.refl w3.heap.size w3).alloc (Nat.le_refl _) (.cells #[.int .i64 k, .int .i64 n0, .string nm, .slice L nl lc, .slice A na ac] 27)
    have HV4 := Lib.hid (HV3.out.keep hb4)
    have HT4 := Lib.hid (HT3.out.below hb4 HT3.out.size)
    have HZ4 := Lib.hid (HZ3.out.below hb4 HZ3.out.lt)
    have HB4 := Lib.hid hb4
    have hz4 : (w3.alloc (.cells #[.int .i64 k, .int .i64 n0, .string nm, .slice L nl lc, .slice A na ac] 27)).heap.size = w3.heap.size + 1 := by simp
    clear hb4 HV3 HT3 HZ3
    generalize w3.alloc (.cells #[.int .i64 k, .int .i64 n0, .string nm, .slice L nl lc, .slice A na ac] 27) = w4 at *
    have q0 : w4.cell? ⟨w3.heap.size, 0, none⟩ = some (.int .i64 k) := HQ4.out.cell 0
    have q1 : w4.cell? ⟨w3.heap.size, 1, none⟩ = some (.int .i64 n0) := HQ4.out.cell 1
    have q2 : w4.cell? ⟨w3.heap.size, 2, none⟩ = some (.string nm) := HQ4.out.cell 2
    have q3 : w4.cell? ⟨w3.heap.size, 3, none⟩ = some (.slice L nl lc) := HQ4.out.cell 3
    have q4 : w4.cell? ⟨w3.heap.size, 4, none⟩ = some (.slice A na ac) := HQ4.out.cell 4
    have q5 : w4.cell? ⟨pr, 0, none⟩ = some (rdAcc ps pa) := HV4.out.obj.cell 0
    have hba := (Below.refl w4.heap.size w4).alloc (Nat.le_refl _) (.cells #[.int .i64 k, .int .i64 n0, .string nm, .slice L nl lc, .slice A na ac] 27)
    have HVa := Lib.hid (HV4.out.keep hba)
    have HTa := Lib.hid (HT4.out.below hba HT4.out.size)
    have HZa := Lib.hid (HZ4.out.below hba HZ4.out.lt)
    have HQa := Lib.hid (HQ4.out.below hba HQ4.out.lt)
    clear hba
    rcases HOR.out with ⟨rfl, hbad⟩ | ⟨rfl, t, hx3, hsz, rfl, hO⟩
    · have HBAD := Lib.hid (tag_bad HX.out hbad)
      have HV5 := Lib.hid HVa.out.drew
      have HT5 := Lib.hid HTa.out.drew
      clear hbad
      have d0 : (w4.alloc (.cells #[.int .i64 k, .int .i64 n0, .string nm, .slice L nl lc, .slice A na ac] 27)).cell? ⟨w.heap.size, 0, none⟩ = some (.int .i64 0) := HZa.out.cell 0
      have d1 : (w4.alloc (.cells #[.int .i64 k, .int .i64 n0, .string nm, .slice L nl lc, .slice A na ac] 27)).cell? ⟨w.heap.size, 1, none⟩ = some (.int .i64 0) := HZa.out.cell 1
      have d2 : (w4.alloc (.cells #[.int .i64 k, .int .i64 n0, .string nm, .slice L nl lc, .slice A na ac] 27)).cell? ⟨w.heap.size, 2, none⟩ = some (.string ⟨#[]⟩) := HZa.out.cell 2
      have d3 : (w4.alloc (.cells #[.int .i64 k, .int .i64 n0, .string nm, .slice L nl lc, .slice A na ac] 27)).cell? ⟨w.heap.size, 3, none⟩ = some (.slice none 0 0) := HZa.out.cell 3
      have d4 : (w4.alloc (.cells #[.int .i64 k, .int .i64 n0, .string nm, .slice L nl lc, .slice A na ac] 27)).cell? ⟨w.heap.size, 4, none⟩ = some (.slice none 0 0) := HZa.out.cell 4
      have f0 : (w4.alloc (.cells #[.int .i64 k, .int .i64 n0, .string nm, .slice L nl lc, .slice A na ac] 27)).frozen? ⟨w.heap.size, 0, none⟩ = false := HZa.out.free 0
      have f1 : (w4.alloc (.cells #[.int .i64 k, .int .i64 n0, .string nm, .slice L nl lc, .slice A na ac] 27)).frozen? ⟨w.heap.size, 1, none⟩ = false := HZa.out.free 1
      have f2 : (w4.alloc (.cells #[.int .i64 k, .int .i64 n0, .string nm, .slice L nl lc, .slice A na ac] 27)).frozen? ⟨w.heap.size, 2, none⟩ = false := HZa.out.free 2
      have f3 : (w4.alloc (.cells #[.int .i64 k, .int .i64 n0, .string nm, .slice L nl lc, .slice A na ac] 27)).frozen? ⟨w.heap.size, 3, none⟩ = false := HZa.out.free 3
      have f4 : (w4.alloc (.cells #[.int .i64 k, .int .i64 n0, .string nm, .slice L nl lc, .slice A na ac] 27)).frozen? ⟨w.heap.size, 4, none⟩ = false := HZa.out.free 4
      have qa0 : (w4.alloc (.cells #[.int .i64 k, .int .i64 n0, .string nm, .slice L nl lc, .slice A na ac] 27)).cell? ⟨w3.heap.size, 0, none⟩ = some (.int .i64 k) := HQa.out.cell 0
      have qa1 : (w4.alloc (.cells #[.int .i64 k, .int .i64 n0, .string nm, .slice L nl lc, .slice A na ac] 27)).cell? ⟨w3.heap.size, 1, none⟩ = some (.int .i64 n0) := HQa.out.cell 1
      have qa2 : (w4.alloc (.cells #[.int .i64 k, .int .i64 n0, .string nm, .slice L nl lc, .slice A na ac] 27)).cell? ⟨w3.heap.size, 2, none⟩ = some (.string nm) := HQa.out.cell 2
      have qa3 : (w4.alloc (.cells #[.int .i64 k, .int .i64 n0, .string nm, .slice L nl lc, .slice A na ac] 27)).cell? ⟨w3.heap.size, 3, none⟩ = some (.slice L nl lc) := HQa.out.cell 3
      have qa4 : (w4.alloc (.cells #[.int .i64 k, .int .i64 n0, .string nm, .slice L nl lc, .slice A na ac] 27)).cell? ⟨w3.heap.size, 4, none⟩ = some (.slice A na ac) := HQa.out.cell 4
      clear HOR HV4 HT4 HZ4 HQ4 HVa HTa HZa HQa
      go_region
      all_goals go_wp2
      all_goals exact bodyPost_ret (v := .tuple #[.agg #[.int .i64 4, .int .i64 0, .string (s.extract j k1), .slice none 0 0, .slice (some ⟨w4.heap.size, 0, none⟩) 1 1], .bool false]) (by simp [results, Tryz.results44, go_sem, d0, d1, d2, d3, d4]) rfl ⟨4, 0, _, none, 0, 0, _, 1, 1, false, _, _, rfl, HV5.out.below (set5_below _ _ _ _ _ _ _) hl1 hl2 hl3, HT5.out.below (set5_below _ _ _ _ _ _ _) (Nat.le_refl _), Or.inl ⟨rfl, HBAD.out⟩⟩
    · have HX3 := Lib.hid hx3
      have HO4 := Lib.hid (hO.owned.keep (w' := w4) fun g hg _ => HB4.out.block g hg.2)
      clear hx3 hO HOR
      have qa0 : (w4.alloc (.cells #[.int .i64 k, .int .i64 n0, .string nm, .slice L nl lc, .slice A na ac] 27)).cell? ⟨w3.heap.size, 0, none⟩ = some (.int .i64 k) := HQa.out.cell 0
      have qa1 : (w4.alloc (.cells #[.int .i64 k, .int .i64 n0, .string nm, .slice L nl lc, .slice A na ac] 27)).cell? ⟨w3.heap.size, 1, none⟩ = some (.int .i64 n0) := HQa.out.cell 1
      have qa2 : (w4.alloc (.cells #[.int .i64 k, .int .i64 n0, .string nm, .slice L nl lc, .slice A na ac] 27)).cell? ⟨w3.heap.size, 2, none⟩ = some (.string nm) := HQa.out.cell 2
      have qa3 : (w4.alloc (.cells #[.int .i64 k, .int .i64 n0, .string nm, .slice L nl lc, .slice A na ac] 27)).cell? ⟨w3.heap.size, 3, none⟩ = some (.slice L nl lc) := HQa.out.cell 3
      have qa4 : (w4.alloc (.cells #[.int .i64 k, .int .i64 n0, .string nm, .slice L nl lc, .slice A na ac] 27)).cell? ⟨w3.heap.size, 4, none⟩ = some (.slice A na ac) := HQa.out.cell 4
      have qa5 : (w4.alloc (.cells #[.int .i64 k, .int .i64 n0, .string nm, .slice L nl lc, .slice A na ac] 27)).cell? ⟨pr, 0, none⟩ = some (rdAcc ps pa) := HVa.out.obj.cell 0
      have qd0 : w4.drew.cell? ⟨w3.heap.size, 0, none⟩ = some (.int .i64 k) := q0
      have qe0 : (w4.alloc (.cells #[.int .i64 k, .int .i64 n0, .string nm, .slice L nl lc, .slice A na ac] 27)).drew.cell? ⟨w3.heap.size, 0, none⟩ = some (.int .i64 k) := qa0
      have qd1 : w4.drew.cell? ⟨w3.heap.size, 1, none⟩ = some (.int .i64 n0) := q1
      have qe1 : (w4.alloc (.cells #[.int .i64 k, .int .i64 n0, .string nm, .slice L nl lc, .slice A na ac] 27)).drew.cell? ⟨w3.heap.size, 1, none⟩ = some (.int .i64 n0) := qa1
      have qd2 : w4.drew.cell? ⟨w3.heap.size, 2, none⟩ = some (.string nm) := q2
      have qe2 : (w4.alloc (.cells #[.int .i64 k, .int .i64 n0, .string nm, .slice L nl lc, .slice A na ac] 27)).drew.cell? ⟨w3.heap.size, 2, none⟩ = some (.string nm) := qa2
      have qd3 : w4.drew.cell? ⟨w3.heap.size, 3, none⟩ = some (.slice L nl lc) := q3
      have qe3 : (w4.alloc (.cells #[.int .i64 k, .int .i64 n0, .string nm, .slice L nl lc, .slice A na ac] 27)).drew.cell? ⟨w3.heap.size, 3, none⟩ = some (.slice L nl lc) := qa3
      have qd4 : w4.drew.cell? ⟨w3.heap.size, 4, none⟩ = some (.slice A na ac) := q4
      have qe4 : (w4.alloc (.cells #[.int .i64 k, .int .i64 n0, .string nm, .slice L nl lc, .slice A na ac] 27)).drew.cell? ⟨w3.heap.size, 4, none⟩ = some (.slice A na ac) := qa4
      have qd5 : w4.drew.cell? ⟨pr, 0, none⟩ = some (rdAcc ps pa) := q5
      have qe5 : (w4.alloc (.cells #[.int .i64 k, .int .i64 n0, .string nm, .slice L nl lc, .slice A na ac] 27)).drew.cell? ⟨pr, 0, none⟩ = some (rdAcc ps pa) := qa5
      obtain ⟨xsa, vsa, loa, hia, hOa⟩ := own_one (base := w.heap.size + 1) (lo0 := w2.heap.size) (hi0 := w3.heap.size) 4 0 (s.extract j k1) (by unfold maxLen; omega) (by omega) (by omega) (by omega) HO4.out
      have HOa := Lib.hid hOa
      clear hOa
      have hne : w3.heap.size ≠ w.heap.size := by omega
      have hne2 : pr ≠ w.heap.size := by omega
      cases h62 : eat 62 (restOf s j3) with
      | some q5 =>
        have h62' := (eats_one 62 _).trans h62
        obtain ⟨hle5, rfl⟩ := eats_rest (p := ⟨#[62]⟩) HV4.out.rd.le h62'
        have HA1 := Lib.hid (accE_yes ps pa j3 s ⟨#[62]⟩ _ w4.drew (HV4.out.rd.drewN 1) hs h62')
        have HA2 := Lib.hid (accE_yes ps pa j3 s ⟨#[62]⟩ _ (w4.alloc (.cells #[.int .i64 k, .int .i64 n0, .string nm, .slice L nl lc, .slice A na ac] 27)).drew (HVa.out.rd.drewN 1) hs h62')
        have HX5 := Lib.hid (tag_some HX.out HX3.out h62)
        clear h62 h62'
        generalize j3 + (⟨#[62]⟩ : ByteArray).size = j5 at *
        go_region_held3 (fun x' : World => x'.cell? ⟨w3.heap.size, 0, none⟩ = some (.int .i64 k) ∧ x'.cell? ⟨w3.heap.size, 1, none⟩ = some (.int .i64 n0) ∧ x'.cell? ⟨w3.heap.size, 2, none⟩ = some (.string nm) ∧ x'.cell? ⟨w3.heap.size, 3, none⟩ = some (.slice L nl lc) ∧ x'.cell? ⟨w3.heap.size, 4, none⟩ = some (.slice A na ac) ∧ x'.cell? ⟨pr, 0, none⟩ = some (rdAcc ps pa)) (first | with_reducible exact ⟨q0, q1, q2, q3, q4, q5⟩ | with_reducible exact ⟨qd0, qd1, qd2, qd3, qd4, qd5⟩ | with_reducible exact ⟨qe0, qe1, qe2, qe3, qe4, qe5⟩ | with_reducible exact ⟨qa0, qa1, qa2, qa3, qa4, qa5⟩ | with_reducible exact ⟨y0, y1, y2, y3, y4, y5⟩ | with_reducible exact ⟨yy0, yy1, yy2, yy3, yy4, yy5⟩ | with_reducible exact ⟨(hs6 _ _ _ _ _ _).trans y0, (hs6 _ _ _ _ _ _).trans y1, (hs6 _ _ _ _ _ _).trans y2, (hs6 _ _ _ _ _ _).trans y3, (hs6 _ _ _ _ _ _).trans y4, (hs7 _ _ _ _ _ _).trans y5⟩ | with_reducible exact ⟨(hs6 _ _ _ _ _ _).trans yy0, (hs6 _ _ _ _ _ _).trans yy1, (hs6 _ _ _ _ _ _).trans yy2, (hs6 _ _ _ _ _ _).trans yy3, (hs6 _ _ _ _ _ _).trans yy4, (hs7 _ _ _ _ _ _).trans yy5⟩ | go_keep) (first | (go_simp; go_at_call 37; (with_reducible refine HA1.out.mono ?_); rintro e w6 ⟨rfl, hr6, hg6'⟩; have hg6 := grown_undrew hg6'; have hT6 := Turn.of_grown hg6 (X := vrX pa pr) (Or.inl rfl); have hV6 := HV4.out.read hr6 hg6; have hQ6 := turn_stays hT6 HQ4.out (by omega) (by omega); have hZ6 := turn_stays hT6 HZ4.out (by omega) (by omega); have y0 : w6.cell? ⟨w3.heap.size, 0, none⟩ = some (.int .i64 k) := hQ6.cell 0; have y1 : w6.cell? ⟨w3.heap.size, 1, none⟩ = some (.int .i64 n0) := hQ6.cell 1; have y2 : w6.cell? ⟨w3.heap.size, 2, none⟩ = some (.string nm) := hQ6.cell 2; have y3 : w6.cell? ⟨w3.heap.size, 3, none⟩ = some (.slice L nl lc) := hQ6.cell 3; have y4 : w6.cell? ⟨w3.heap.size, 4, none⟩ = some (.slice A na ac) := hQ6.cell 4; have y5 : w6.cell? ⟨pr, 0, none⟩ = some (rdAcc ps pa) := hV6.obj.cell 0; have hO6 := HO4.out.keep (w' := w6) (fun g hg hl => hg6.block g hl (fun e => by injection e with e; have := hg.1; omega)); have hz6 := hg6.size; have hb7 := (Below.refl w6.heap.size w6).alloc (Nat.le_refl _) (.cells #[.int .i64 k, .int .i64 n0, .string nm, .slice L nl lc, .slice A na ac] 27); have hV7 := hV6.keep hb7; have hQ7 := hQ6.below hb7 hQ6.lt; have hZ7 := hZ6.below hb7 hZ6.lt; have HT7 := Lib.hid ((HT4.out.trans hT6).below hb7 (HT4.out.trans hT6).size); have yy0 : (w6.alloc (.cells #[.int .i64 k, .int .i64 n0, .string nm, .slice L nl lc, .slice A na ac] 27)).cell? ⟨w3.heap.size, 0, none⟩ = some (.int .i64 k) := hQ7.cell 0; have yy1 : (w6.alloc (.cells #[.int .i64 k, .int .i64 n0, .string nm, .slice L nl lc, .slice A na ac] 27)).cell? ⟨w3.heap.size, 1, none⟩ = some (.int .i64 n0) := hQ7.cell 1; have yy2 : (w6.alloc (.cells #[.int .i64 k, .int .i64 n0, .string nm, .slice L nl lc, .slice A na ac] 27)).cell? ⟨w3.heap.size, 2, none⟩ = some (.string nm) := hQ7.cell 2; have yy3 : (w6.alloc (.cells #[.int .i64 k, .int .i64 n0, .string nm, .slice L nl lc, .slice A na ac] 27)).cell? ⟨w3.heap.size, 3, none⟩ = some (.slice L nl lc) := hQ7.cell 3; have yy4 : (w6.alloc (.cells #[.int .i64 k, .int .i64 n0, .string nm, .slice L nl lc, .slice A na ac] 27)).cell? ⟨w3.heap.size, 4, none⟩ = some (.slice A na ac) := hQ7.cell 4; have yy5 : (w6.alloc (.cells #[.int .i64 k, .int .i64 n0, .string nm, .slice L nl lc, .slice A na ac] 27)).cell? ⟨pr, 0, none⟩ = some (rdAcc ps pa) := hV7.obj.cell 0; have d0 : (w6.alloc (.cells #[.int .i64 k, .int .i64 n0, .string nm, .slice L nl lc, .slice A na ac] 27)).cell? ⟨w.heap.size, 0, none⟩ = some (.int .i64 0) := hZ7.cell 0; have d1 : (w6.alloc (.cells #[.int .i64 k, .int .i64 n0, .string nm, .slice L nl lc, .slice A na ac] 27)).cell? ⟨w.heap.size, 1, none⟩ = some (.int .i64 0) := hZ7.cell 1; have d2 : (w6.alloc (.cells #[.int .i64 k, .int .i64 n0, .string nm, .slice L nl lc, .slice A na ac] 27)).cell? ⟨w.heap.size, 2, none⟩ = some (.string ⟨#[]⟩) := hZ7.cell 2; have d3 : (w6.alloc (.cells #[.int .i64 k, .int .i64 n0, .string nm, .slice L nl lc, .slice A na ac] 27)).cell? ⟨w.heap.size, 3, none⟩ = some (.slice none 0 0) := hZ7.cell 3; have d4 : (w6.alloc (.cells #[.int .i64 k, .int .i64 n0, .string nm, .slice L nl lc, .slice A na ac] 27)).cell? ⟨w.heap.size, 4, none⟩ = some (.slice none 0 0) := hZ7.cell 4; have f0 : (w6.alloc (.cells #[.int .i64 k, .int .i64 n0, .string nm, .slice L nl lc, .slice A na ac] 27)).frozen? ⟨w.heap.size, 0, none⟩ = false := hZ7.free 0; have f1 : (w6.alloc (.cells #[.int .i64 k, .int .i64 n0, .string nm, .slice L nl lc, .slice A na ac] 27)).frozen? ⟨w.heap.size, 1, none⟩ = false := hZ7.free 1; have f2 : (w6.alloc (.cells #[.int .i64 k, .int .i64 n0, .string nm, .slice L nl lc, .slice A na ac] 27)).frozen? ⟨w.heap.size, 2, none⟩ = false := hZ7.free 2; have f3 : (w6.alloc (.cells #[.int .i64 k, .int .i64 n0, .string nm, .slice L nl lc, .slice A na ac] 27)).frozen? ⟨w.heap.size, 3, none⟩ = false := hZ7.free 3; have f4 : (w6.alloc (.cells #[.int .i64 k, .int .i64 n0, .string nm, .slice L nl lc, .slice A na ac] 27)).frozen? ⟨w.heap.size, 4, none⟩ = false := hZ7.free 4; have hs6 := fun a b c d e i => set5_cell ((w6.alloc (.cells #[.int .i64 k, .int .i64 n0, .string nm, .slice L nl lc, .slice A na ac] 27))) w.heap.size a b c d e w3.heap.size i hne; have hs7 := fun a b c d e i => set5_cell ((w6.alloc (.cells #[.int .i64 k, .int .i64 n0, .string nm, .slice L nl lc, .slice A na ac] 27))) w.heap.size a b c d e pr i hne2; obtain ⟨xsb, vsb, lob, hib, hOb⟩ := own_one (base := w.heap.size + 1) (lo0 := w2.heap.size) (hi0 := w3.heap.size) 4 0 (s.extract j k1) (by unfold maxLen; omega) (by omega) (by omega) (by omega) hO6; have HO7 := Lib.hid hOb.own; have HV7 := Lib.hid hV7; clear hr6 hg6 hg6' hT6 hV6 hQ6 hZ6 hO6 hb7 hV7 hQ7 hZ7 hOb) | (go_simp; go_at_call 37; (with_reducible refine HA2.out.mono ?_); rintro e w6 ⟨rfl, hr6, hg6'⟩; have hg6 := grown_undrew hg6'; have hT6 := Turn.of_grown hg6 (X := vrX pa pr) (Or.inl rfl); have hV6 := HVa.out.read hr6 hg6; have hQ6 := turn_stays hT6 HQa.out (by omega) (by omega); have hZ6 := turn_stays hT6 HZa.out (by omega) (by omega); have y0 : w6.cell? ⟨w3.heap.size, 0, none⟩ = some (.int .i64 k) := hQ6.cell 0; have y1 : w6.cell? ⟨w3.heap.size, 1, none⟩ = some (.int .i64 n0) := hQ6.cell 1; have y2 : w6.cell? ⟨w3.heap.size, 2, none⟩ = some (.string nm) := hQ6.cell 2; have y3 : w6.cell? ⟨w3.heap.size, 3, none⟩ = some (.slice L nl lc) := hQ6.cell 3; have y4 : w6.cell? ⟨w3.heap.size, 4, none⟩ = some (.slice A na ac) := hQ6.cell 4; have y5 : w6.cell? ⟨pr, 0, none⟩ = some (rdAcc ps pa) := hV6.obj.cell 0; have d0 : w6.cell? ⟨w.heap.size, 0, none⟩ = some (.int .i64 0) := hZ6.cell 0; have d1 : w6.cell? ⟨w.heap.size, 1, none⟩ = some (.int .i64 0) := hZ6.cell 1; have d2 : w6.cell? ⟨w.heap.size, 2, none⟩ = some (.string ⟨#[]⟩) := hZ6.cell 2; have d3 : w6.cell? ⟨w.heap.size, 3, none⟩ = some (.slice none 0 0) := hZ6.cell 3; have d4 : w6.cell? ⟨w.heap.size, 4, none⟩ = some (.slice none 0 0) := hZ6.cell 4; have f0 : w6.frozen? ⟨w.heap.size, 0, none⟩ = false := hZ6.free 0; have f1 : w6.frozen? ⟨w.heap.size, 1, none⟩ = false := hZ6.free 1; have f2 : w6.frozen? ⟨w.heap.size, 2, none⟩ = false := hZ6.free 2; have f3 : w6.frozen? ⟨w.heap.size, 3, none⟩ = false := hZ6.free 3; have f4 : w6.frozen? ⟨w.heap.size, 4, none⟩ = false := hZ6.free 4; have hs6 := fun a b c d e i => set5_cell (w6) w.heap.size a b c d e w3.heap.size i hne; have hs7 := fun a b c d e i => set5_cell (w6) w.heap.size a b c d e pr i hne2; have HO6 := Lib.hid (HOa.out.grown hg6 (by omega)).own; have HV6 := Lib.hid hV6; have HT6 := Lib.hid (HTa.out.trans hT6); clear hr6 hg6 hg6' hT6 hV6 hQ6 hZ6))
        all_goals go_wp2
        all_goals first
          | exact bodyPost_ret (v := .tuple #[.agg #[.int .i64 4, .int .i64 0, .string (s.extract j k1), .slice none 0 0, .slice (some ⟨w4.heap.size, 0, none⟩) 1 1], .bool true]) (by simp [results, Tryz.results44, go_sem, d0, d1, d2, d3, d4]) rfl ⟨4, 0, _, none, 0, 0, _, 1, 1, true, _, _, rfl, HV6.out.below (set5_below _ _ _ _ _ _ _) hl1 hl2 hl3, HT6.out.below (set5_below _ _ _ _ _ _ _) (Nat.le_refl _), Or.inr ⟨rfl, _, by rw [HX5.out, HD1.out.2], by rw [sizeVa, sizeVas, sizeVas]; omega, by rw [sizeVa, sizeVas, sizeVas]; omega, (HO6.out.set5 _ (by omega) _ _ _ _ _).base (by omega)⟩⟩
          | exact bodyPost_ret (v := .tuple #[.agg #[.int .i64 4, .int .i64 0, .string (s.extract j k1), .slice none 0 0, .slice (some ⟨w6.heap.size, 0, none⟩) 1 1], .bool true]) (by simp [results, Tryz.results44, go_sem, d0, d1, d2, d3, d4]) rfl ⟨4, 0, _, none, 0, 0, _, 1, 1, true, _, _, rfl, HV7.out.below (set5_below _ _ _ _ _ _ _) hl1 hl2 hl3, HT7.out.below (set5_below _ _ _ _ _ _ _) (Nat.le_refl _), Or.inr ⟨rfl, _, by rw [HX5.out, HD1.out.2], by rw [sizeVa, sizeVas, sizeVas]; omega, by rw [sizeVa, sizeVas, sizeVas]; omega, (HO7.out.set5 _ (by omega) _ _ _ _ _).base (by omega)⟩⟩
      | none =>
        have h62' := (eats_one 62 _).trans h62
        have HA1 := Lib.hid (accE_no ps pa j3 s ⟨#[62]⟩ w4.drew (HV4.out.rd.drewN 1) h62')
        have HA2 := Lib.hid (accE_no ps pa j3 s ⟨#[62]⟩ (w4.alloc (.cells #[.int .i64 k, .int .i64 n0, .string nm, .slice L nl lc, .slice A na ac] 27)).drew (HVa.out.rd.drewN 1) h62')
        have HX5 := Lib.hid (tag_stop HX.out HX3.out h62)
        clear h62 h62' 
        go_region_held3 (fun x' : World => x'.cell? ⟨w3.heap.size, 0, none⟩ = some (.int .i64 k) ∧ x'.cell? ⟨w3.heap.size, 1, none⟩ = some (.int .i64 n0) ∧ x'.cell? ⟨w3.heap.size, 2, none⟩ = some (.string nm) ∧ x'.cell? ⟨w3.heap.size, 3, none⟩ = some (.slice L nl lc) ∧ x'.cell? ⟨w3.heap.size, 4, none⟩ = some (.slice A na ac) ∧ x'.cell? ⟨pr, 0, none⟩ = some (rdAcc ps pa)) (first | with_reducible exact ⟨q0, q1, q2, q3, q4, q5⟩ | with_reducible exact ⟨qd0, qd1, qd2, qd3, qd4, qd5⟩ | with_reducible exact ⟨qe0, qe1, qe2, qe3, qe4, qe5⟩ | with_reducible exact ⟨qa0, qa1, qa2, qa3, qa4, qa5⟩ | with_reducible exact ⟨y0, y1, y2, y3, y4, y5⟩ | with_reducible exact ⟨yy0, yy1, yy2, yy3, yy4, yy5⟩ | with_reducible exact ⟨(hs6 _ _ _ _ _ _).trans y0, (hs6 _ _ _ _ _ _).trans y1, (hs6 _ _ _ _ _ _).trans y2, (hs6 _ _ _ _ _ _).trans y3, (hs6 _ _ _ _ _ _).trans y4, (hs7 _ _ _ _ _ _).trans y5⟩ | with_reducible exact ⟨(hs6 _ _ _ _ _ _).trans yy0, (hs6 _ _ _ _ _ _).trans yy1, (hs6 _ _ _ _ _ _).trans yy2, (hs6 _ _ _ _ _ _).trans yy3, (hs6 _ _ _ _ _ _).trans yy4, (hs7 _ _ _ _ _ _).trans yy5⟩ | go_keep) (first | (go_simp; go_at_call 37; (with_reducible refine HA1.out.mono ?_); rintro e w6 ⟨rfl, hr6, hg6'⟩; have hg6 := grown_undrew hg6'; have hT6 := Turn.of_grown hg6 (X := vrX pa pr) (Or.inl rfl); have hV6 := HV4.out.read hr6 hg6; have hQ6 := turn_stays hT6 HQ4.out (by omega) (by omega); have hZ6 := turn_stays hT6 HZ4.out (by omega) (by omega); have y0 : w6.cell? ⟨w3.heap.size, 0, none⟩ = some (.int .i64 k) := hQ6.cell 0; have y1 : w6.cell? ⟨w3.heap.size, 1, none⟩ = some (.int .i64 n0) := hQ6.cell 1; have y2 : w6.cell? ⟨w3.heap.size, 2, none⟩ = some (.string nm) := hQ6.cell 2; have y3 : w6.cell? ⟨w3.heap.size, 3, none⟩ = some (.slice L nl lc) := hQ6.cell 3; have y4 : w6.cell? ⟨w3.heap.size, 4, none⟩ = some (.slice A na ac) := hQ6.cell 4; have y5 : w6.cell? ⟨pr, 0, none⟩ = some (rdAcc ps pa) := hV6.obj.cell 0; have hO6 := HO4.out.keep (w' := w6) (fun g hg hl => hg6.block g hl (fun e => by injection e with e; have := hg.1; omega)); have hz6 := hg6.size; have hb7 := (Below.refl w6.heap.size w6).alloc (Nat.le_refl _) (.cells #[.int .i64 k, .int .i64 n0, .string nm, .slice L nl lc, .slice A na ac] 27); have hV7 := hV6.keep hb7; have hQ7 := hQ6.below hb7 hQ6.lt; have hZ7 := hZ6.below hb7 hZ6.lt; have HT7 := Lib.hid ((HT4.out.trans hT6).below hb7 (HT4.out.trans hT6).size); have yy0 : (w6.alloc (.cells #[.int .i64 k, .int .i64 n0, .string nm, .slice L nl lc, .slice A na ac] 27)).cell? ⟨w3.heap.size, 0, none⟩ = some (.int .i64 k) := hQ7.cell 0; have yy1 : (w6.alloc (.cells #[.int .i64 k, .int .i64 n0, .string nm, .slice L nl lc, .slice A na ac] 27)).cell? ⟨w3.heap.size, 1, none⟩ = some (.int .i64 n0) := hQ7.cell 1; have yy2 : (w6.alloc (.cells #[.int .i64 k, .int .i64 n0, .string nm, .slice L nl lc, .slice A na ac] 27)).cell? ⟨w3.heap.size, 2, none⟩ = some (.string nm) := hQ7.cell 2; have yy3 : (w6.alloc (.cells #[.int .i64 k, .int .i64 n0, .string nm, .slice L nl lc, .slice A na ac] 27)).cell? ⟨w3.heap.size, 3, none⟩ = some (.slice L nl lc) := hQ7.cell 3; have yy4 : (w6.alloc (.cells #[.int .i64 k, .int .i64 n0, .string nm, .slice L nl lc, .slice A na ac] 27)).cell? ⟨w3.heap.size, 4, none⟩ = some (.slice A na ac) := hQ7.cell 4; have yy5 : (w6.alloc (.cells #[.int .i64 k, .int .i64 n0, .string nm, .slice L nl lc, .slice A na ac] 27)).cell? ⟨pr, 0, none⟩ = some (rdAcc ps pa) := hV7.obj.cell 0; have d0 : (w6.alloc (.cells #[.int .i64 k, .int .i64 n0, .string nm, .slice L nl lc, .slice A na ac] 27)).cell? ⟨w.heap.size, 0, none⟩ = some (.int .i64 0) := hZ7.cell 0; have d1 : (w6.alloc (.cells #[.int .i64 k, .int .i64 n0, .string nm, .slice L nl lc, .slice A na ac] 27)).cell? ⟨w.heap.size, 1, none⟩ = some (.int .i64 0) := hZ7.cell 1; have d2 : (w6.alloc (.cells #[.int .i64 k, .int .i64 n0, .string nm, .slice L nl lc, .slice A na ac] 27)).cell? ⟨w.heap.size, 2, none⟩ = some (.string ⟨#[]⟩) := hZ7.cell 2; have d3 : (w6.alloc (.cells #[.int .i64 k, .int .i64 n0, .string nm, .slice L nl lc, .slice A na ac] 27)).cell? ⟨w.heap.size, 3, none⟩ = some (.slice none 0 0) := hZ7.cell 3; have d4 : (w6.alloc (.cells #[.int .i64 k, .int .i64 n0, .string nm, .slice L nl lc, .slice A na ac] 27)).cell? ⟨w.heap.size, 4, none⟩ = some (.slice none 0 0) := hZ7.cell 4; have f0 : (w6.alloc (.cells #[.int .i64 k, .int .i64 n0, .string nm, .slice L nl lc, .slice A na ac] 27)).frozen? ⟨w.heap.size, 0, none⟩ = false := hZ7.free 0; have f1 : (w6.alloc (.cells #[.int .i64 k, .int .i64 n0, .string nm, .slice L nl lc, .slice A na ac] 27)).frozen? ⟨w.heap.size, 1, none⟩ = false := hZ7.free 1; have f2 : (w6.alloc (.cells #[.int .i64 k, .int .i64 n0, .string nm, .slice L nl lc, .slice A na ac] 27)).frozen? ⟨w.heap.size, 2, none⟩ = false := hZ7.free 2; have f3 : (w6.alloc (.cells #[.int .i64 k, .int .i64 n0, .string nm, .slice L nl lc, .slice A na ac] 27)).frozen? ⟨w.heap.size, 3, none⟩ = false := hZ7.free 3; have f4 : (w6.alloc (.cells #[.int .i64 k, .int .i64 n0, .string nm, .slice L nl lc, .slice A na ac] 27)).frozen? ⟨w.heap.size, 4, none⟩ = false := hZ7.free 4; have hs6 := fun a b c d e i => set5_cell ((w6.alloc (.cells #[.int .i64 k, .int .i64 n0, .string nm, .slice L nl lc, .slice A na ac] 27))) w.heap.size a b c d e w3.heap.size i hne; have hs7 := fun a b c d e i => set5_cell ((w6.alloc (.cells #[.int .i64 k, .int .i64 n0, .string nm, .slice L nl lc, .slice A na ac] 27))) w.heap.size a b c d e pr i hne2; obtain ⟨xsb, vsb, lob, hib, hOb⟩ := own_one (base := w.heap.size + 1) (lo0 := w2.heap.size) (hi0 := w3.heap.size) 4 0 (s.extract j k1) (by unfold maxLen; omega) (by omega) (by omega) (by omega) hO6; have HO7 := Lib.hid hOb.own; have HV7 := Lib.hid hV7; clear hr6 hg6 hg6' hT6 hV6 hQ6 hZ6 hO6 hb7 hV7 hQ7 hZ7 hOb) | (go_simp; go_at_call 37; (with_reducible refine HA2.out.mono ?_); rintro e w6 ⟨rfl, hr6, hg6'⟩; have hg6 := grown_undrew hg6'; have hT6 := Turn.of_grown hg6 (X := vrX pa pr) (Or.inl rfl); have hV6 := HVa.out.read hr6 hg6; have hQ6 := turn_stays hT6 HQa.out (by omega) (by omega); have hZ6 := turn_stays hT6 HZa.out (by omega) (by omega); have y0 : w6.cell? ⟨w3.heap.size, 0, none⟩ = some (.int .i64 k) := hQ6.cell 0; have y1 : w6.cell? ⟨w3.heap.size, 1, none⟩ = some (.int .i64 n0) := hQ6.cell 1; have y2 : w6.cell? ⟨w3.heap.size, 2, none⟩ = some (.string nm) := hQ6.cell 2; have y3 : w6.cell? ⟨w3.heap.size, 3, none⟩ = some (.slice L nl lc) := hQ6.cell 3; have y4 : w6.cell? ⟨w3.heap.size, 4, none⟩ = some (.slice A na ac) := hQ6.cell 4; have y5 : w6.cell? ⟨pr, 0, none⟩ = some (rdAcc ps pa) := hV6.obj.cell 0; have d0 : w6.cell? ⟨w.heap.size, 0, none⟩ = some (.int .i64 0) := hZ6.cell 0; have d1 : w6.cell? ⟨w.heap.size, 1, none⟩ = some (.int .i64 0) := hZ6.cell 1; have d2 : w6.cell? ⟨w.heap.size, 2, none⟩ = some (.string ⟨#[]⟩) := hZ6.cell 2; have d3 : w6.cell? ⟨w.heap.size, 3, none⟩ = some (.slice none 0 0) := hZ6.cell 3; have d4 : w6.cell? ⟨w.heap.size, 4, none⟩ = some (.slice none 0 0) := hZ6.cell 4; have f0 : w6.frozen? ⟨w.heap.size, 0, none⟩ = false := hZ6.free 0; have f1 : w6.frozen? ⟨w.heap.size, 1, none⟩ = false := hZ6.free 1; have f2 : w6.frozen? ⟨w.heap.size, 2, none⟩ = false := hZ6.free 2; have f3 : w6.frozen? ⟨w.heap.size, 3, none⟩ = false := hZ6.free 3; have f4 : w6.frozen? ⟨w.heap.size, 4, none⟩ = false := hZ6.free 4; have hs6 := fun a b c d e i => set5_cell (w6) w.heap.size a b c d e w3.heap.size i hne; have hs7 := fun a b c d e i => set5_cell (w6) w.heap.size a b c d e pr i hne2; have HO6 := Lib.hid (HOa.out.grown hg6 (by omega)).own; have HV6 := Lib.hid hV6; have HT6 := Lib.hid (HTa.out.trans hT6); clear hr6 hg6 hg6' hT6 hV6 hQ6 hZ6))
        all_goals go_wp2
        all_goals first
          | exact bodyPost_ret (v := .tuple #[.agg #[.int .i64 4, .int .i64 0, .string (s.extract j k1), .slice none 0 0, .slice (some ⟨w4.heap.size, 0, none⟩) 1 1], .bool false]) (by simp [results, Tryz.results44, go_sem, d0, d1, d2, d3, d4]) rfl ⟨4, 0, _, none, 0, 0, _, 1, 1, false, _, _, rfl, HV6.out.below (set5_below _ _ _ _ _ _ _) hl1 hl2 hl3, HT6.out.below (set5_below _ _ _ _ _ _ _) (Nat.le_refl _), Or.inl ⟨rfl, by rw [HX5.out]; exact Bad.none _ _ _⟩⟩
          | exact bodyPost_ret (v := .tuple #[.agg #[.int .i64 4, .int .i64 0, .string (s.extract j k1), .slice none 0 0, .slice (some ⟨w6.heap.size, 0, none⟩) 1 1], .bool false]) (by simp [results, Tryz.results44, go_sem, d0, d1, d2, d3, d4]) rfl ⟨4, 0, _, none, 0, 0, _, 1, 1, false, _, _, rfl, HV7.out.below (set5_below _ _ _ _ _ _ _) hl1 hl2 hl3, HT7.out.below (set5_below _ _ _ _ _ _ _) (Nat.le_refl _), Or.inl ⟨rfl, by rw [HX5.out]; exact Bad.none _ _ _⟩⟩
end Go.Proofs.YtceclhndagoddaaGreatDoor
