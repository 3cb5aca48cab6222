/- Lemmas: RValue. -/
import Derived.Test.YtceclhndagoddaaGreatDoorLawFnValueText_34
import Derived.Test.YtceclhndagoddaaGreatDoorLawFnValueText_35

namespace Go.Proofs.YtceclhndagoddaaGreatDoor
open Go Go.RowKit

def RecR (n m : Nat) : Prop := ∀ (B : Nat) (w : World) (ps pa pr j : Nat) (s : ByteArray), VR B w ps pa pr s j m → s.size ≤ 1048576 →
  Calls Tryz.prog 43 #[.pointer (some ⟨pr, 0, none⟩)] w (ValPost B ps pa pr s (m + 1) w (rdRec (rdVa n) (restOf s j)))
def ListR (n m : Nat) : Prop := ∀ (B : Nat) (w : World) (ps pa pr j : Nat) (s : ByteArray), VR B w ps pa pr s j m → s.size ≤ 1048576 →
  Calls Tryz.prog 45 #[.pointer (some ⟨pr, 0, none⟩)] w (ValPost B ps pa pr s (m + 1) w (rdList (rdVa n) (restOf s j)))

theorem drop_head {P : UInt8 → Bool} : ∀ {l : List UInt8} {d : UInt8} {q : List UInt8}, l.dropWhile P = d :: q → P d = false
  | [], _, _, h => by cases h
  | c :: l, d, q, h => by
    by_cases hc : P c = true
    · rw [List.dropWhile_cons_of_pos hc] at h
      exact drop_head h
    · rw [List.dropWhile_cons_of_neg hc] at h
      injection h with h1 _
      rw [← h1]
      simpa using hc
/-- What ParseInt makes of the run of signs is what the model makes of the text. -/
theorem int_yes {l : List UInt8} {n : Int} (h : unItoa (l.takeWhile intC) = some n) : rdIntV l = some (.mk 1 n ⟨#[]⟩ [] [], l.dropWhile intC) := by
  obtain ⟨h1, h2, h3⟩ := unItoa_some h
  have hs : Stop (l.dropWhile intC) := fun c hc => by
    cases hd : l.dropWhile intC with
    | nil => rw [hd] at hc; cases hc
    | cons d q =>
      rw [hd] at hc
      injection hc with hc
      subst hc
      have h4 := drop_head hd
      cases hdc : digC d with
      | false => rfl
      | true => rw [digC_intC hdc] at h4; cases h4
  have e : l = Lib.itoa n ++ l.dropWhile intC := by rw [← h1]; exact (List.takeWhile_append_dropWhile).symm
  have h5 := int_reads n _ h2 h3 hs
  rw [← e] at h5
  exact h5
theorem int_shape {l r : List UInt8} {t : Va} (h : rdIntV l = some (t, r)) : ∃ n : Int, -999999999999 ≤ n ∧ n ≤ 999999999999 ∧ l = Lib.itoa n ++ r := by
  have hs := rdInt_sound l t r h
  unfold rdIntV at h
  split at h
  · split at h
    · cases h
    · rename_i n hn
      simp only [Option.some.injEq, Prod.mk.injEq] at h
      obtain ⟨rfl, _⟩ := h
      obtain ⟨_, h2, h3⟩ := unItoa_some hn
      refine ⟨n, h2, h3, ?_⟩
      rw [hs, txtV, nodeTxtV, if_pos rfl]
  · split at h
    · cases h
    · rename_i n hn
      simp only [Option.some.injEq, Prod.mk.injEq] at h
      obtain ⟨rfl, _⟩ := h
      obtain ⟨_, h2, h3⟩ := unItoa_some hn
      refine ⟨n, h2, h3, ?_⟩
      rw [hs, txtV, nodeTxtV, if_pos rfl]
theorem itoa_all (n : Int) : ∀ c ∈ Lib.itoa n, intC c = true := by
  intro c hc
  rw [Lib.itoa] at hc
  split at hc
  · rcases List.mem_cons.1 hc with rfl | h1
    · rfl
    · exact digC_intC (digs_all _ c h1)
  · exact digC_intC (digs_all _ c hc)
theorem take_all {P : UInt8 → Bool} : ∀ {l r : List UInt8}, (∀ c ∈ l, P c = true) → (∀ c q, r = c :: q → P c = false) → (l ++ r).takeWhile P = l
  | [], [], _, _ => rfl
  | [], c :: q, _, h => by rw [List.nil_append, List.takeWhile_cons_of_neg (by rw [h c q rfl]; simp)]
  | c :: l, r, h1, h2 => by
    rw [List.cons_append, List.takeWhile_cons_of_pos (h1 c (by simp)), take_all (fun d hd => h1 d (by simp [hd])) h2]
theorem int_no {l : List UInt8} (m : Nat) (h : unItoa (l.takeWhile intC) = none) : BadV m (rdIntV l) := by
  intro t r hx
  obtain ⟨n, h1, h2, h3⟩ := int_shape hx
  by_cases hh : HeadI r
  · exact Or.inr (Or.inr hh)
  · exfalso
    have e : l.takeWhile intC = Lib.itoa n := by
      rw [h3]
      refine take_all (itoa_all n) fun c q hr => ?_
      cases hc : intC c with
      | false => rfl
      | true => exact absurd ⟨c, q, hr, hc⟩ hh
    rw [unItoa_of e h1 h2] at h
    cases h

set_option maxHeartbeats 2000000 in
theorem valR_zero (n : Nat) : ValR n 0 := by
  intro B w ps pa pr j s hv hs
  have hl1 := hv.lts
  have hl2 := hv.lta
  have hl3 := hv.ltr
  obtain ⟨hb0, z0, hs0⟩ := boxes1 w 27 #[.int .i64 0, .int .i64 0, .string ⟨#[]⟩, .slice none 0 0, .slice none 0 0]
  have HV0 := Lib.hid (hv.keep hb0)
  have HT0 := Lib.hid (Turn.of_below (X := vrX pa pr) hb0)
  have HZ0 := Lib.hid z0
  clear hv hb0 z0 hs0
  go_enter Tryz.func18, Tryz.ntmps18
  go_upto_region 1 with fail
  generalize w.alloc (.cells #[.int .i64 0, .int .i64 0, .string ⟨#[]⟩, .slice none 0 0, .slice none 0 0] 27) = wa at *
  have b3 : wa.cell? ⟨pr, 3, none⟩ = some (.int .i64 0) := HV0.out.obj.cell 3
  have d0 : wa.cell? ⟨w.heap.size, 0, none⟩ = some (.int .i64 0) := HZ0.out.cell 0
  have d1 : wa.cell? ⟨w.heap.size, 1, none⟩ = some (.int .i64 0) := HZ0.out.cell 1
  have d2 : wa.cell? ⟨w.heap.size, 2, none⟩ = some (.string ⟨#[]⟩) := HZ0.out.cell 2
  have d3 : wa.cell? ⟨w.heap.size, 3, none⟩ = some (.slice none 0 0) := HZ0.out.cell 3
  have d4 : wa.cell? ⟨w.heap.size, 4, none⟩ = some (.slice none 0 0) := HZ0.out.cell 4
  have f0 : wa.frozen? ⟨w.heap.size, 0, none⟩ = false := HZ0.out.free 0
  have f1 : wa.frozen? ⟨w.heap.size, 1, none⟩ = false := HZ0.out.free 1
  have f2 : wa.frozen? ⟨w.heap.size, 2, none⟩ = false := HZ0.out.free 2
  have f3 : wa.frozen? ⟨w.heap.size, 3, none⟩ = false := HZ0.out.free 3
  have f4 : wa.frozen? ⟨w.heap.size, 4, none⟩ = false := HZ0.out.free 4
  go_wp2
  exact bodyPost_ret (v := .tuple #[.agg #[.int .i64 0, .int .i64 0, .string ⟨#[]⟩, .slice none 0 0, .slice none 0 0], .bool false]) (by simp [results, Tryz.results18, go_sem, d0, d1, d2, d3, d4]) rfl ⟨0, 0, ⟨#[]⟩, none, 0, 0, none, 0, 0, false, _, _, rfl, HV0.out.below (set5_below _ _ _ _ _ _ _) hl1 hl2 hl3, HT0.out.below (set5_below _ _ _ _ _ _ _) (Nat.le_refl _), Or.inl ⟨rfl, fun t r _ => Or.inr (Or.inl (by rw [sizeVa_eq]; omega))⟩⟩
set_option maxHeartbeats 8000000 in
set_option maxRecDepth 100000 in
theorem valR_succ (n m : Nat) (hm : m ≤ 1000) (H : ValR n m) (HR : RecR n m) (HL : ListR n m) : ValR (n + 1) (m + 1) := by
  intro B w ps pa pr j s hv hs
  have hl1 := hv.lts
  have hl2 := hv.lta
  have hl3 := hv.ltr
  obtain ⟨hb0, z0, hs0⟩ := boxes1 w 27 #[.int .i64 0, .int .i64 0, .string ⟨#[]⟩, .slice none 0 0, .slice none 0 0]
  have HV0 := Lib.hid (hv.keep hb0)
  have HT0 := Lib.hid (Turn.of_below (X := vrX pa pr) hb0)
  have HZ0 := Lib.hid z0
  have HRE := Lib.hid HR
  have HLI := Lib.hid HL
  have HCA := Lib.hid (readCase_any n m H)
  have hq0 : (((m + 1 : Nat) : Int) == 0) = false := by rw [beq_eq_false_iff_ne]; omega
  have hwr : IntKind.i64.wrap (((m + 1 : Nat) : Int) - 1) = ((m : Nat) : Int) := by rw [IntKind.wrap_i64]; omega
  clear H HR HL hv hb0 z0 hs0
  go_enter Tryz.func18, Tryz.ntmps18
  go_upto_region 1 with fail
  generalize w.alloc (.cells #[.int .i64 0, .int .i64 0, .string ⟨#[]⟩, .slice none 0 0, .slice none 0 0] 27) = wa at *
  have hwl : w.heap.size < wa.heap.size := HZ0.out.lt
  have b3 : wa.cell? ⟨pr, 3, none⟩ = some (.int .i64 ((m + 1 : Nat) : Int)) := HV0.out.obj.cell 3
  have g3 : wa.frozen? ⟨pr, 3, none⟩ = false := HV0.out.obj.free 3
  go_upto_region 4 with fail
  have HV1 := Lib.hid (HV0.out.put m)
  have HT1 := Lib.hid (HT0.out.set (p := ⟨pr, 3, none⟩) (Or.inr (Or.inr rfl)) (.int .i64 (m : Int)))
  have HZ1 : Hid (Whole1 (wa.setCell ⟨pr, 3, none⟩ (.int .i64 (m : Int))) w.heap.size 27 #[.int .i64 0, .int .i64 0, .string ⟨#[]⟩, .slice none 0 0, .slice none 0 0]) := Lib.hid ((Below.heap_setCell _ _ _ _ (by show w.heap.size ≠ pr; omega)).trans HZ0.out)
  clear b3 g3 hq0 hwr HV0 HT0 HZ0
  generalize wa.setCell ⟨pr, 3, none⟩ (.int .i64 (m : Int)) = w1 at *
  have b0 : w1.cell? ⟨pr, 0, none⟩ = some (rdAcc ps pa) := HV1.out.obj.cell 0
  have b1 : w1.cell? ⟨pr, 1, none⟩ = some (rdTak ps pa) := HV1.out.obj.cell 1
  have b2 : w1.cell? ⟨pr, 2, none⟩ = some (rdEnd ps pa) := HV1.out.obj.cell 2
  cases hx0 : eats [35, 116] (restOf s j) with
  | some r =>
    obtain ⟨hle, rfl⟩ := eats_rest (p := ⟨#[35, 116]⟩) HV1.out.rd.le hx0
    have HC := Lib.hid (accE_yes ps pa j s ⟨#[35, 116]⟩ _ w1 HV1.out.rd hs hx0)
    have E0 := Lib.hid hx0
    clear hx0
    go_wp2_with fail
    refine HC.out.mono ?_
    rintro e w2 ⟨rfl, hr2, hg2⟩
    have hT2 := Turn.of_grown hg2 (X := vrX pa pr) (Or.inl rfl)
    have HV2 := Lib.hid (HV1.out.read hr2 hg2)
    have HT2 := Lib.hid (HT1.out.trans hT2)
    have HZ2 := Lib.hid (turn_stays hT2 HZ1.out (by omega) (by omega))
    clear hr2 hg2 hT2 HC b0 b1 b2 HV1 HT1 HZ1
    have HX := Lib.hid (show rdVa (n + 1) (restOf s j) = some (.mk 2 1 ⟨#[]⟩ [] [], restOf s (j + (⟨#[35, 116]⟩ : ByteArray).size)) by simp only [rdVa, E0.out])
    have d0 : w2.cell? ⟨w.heap.size, 0, none⟩ = some (.int .i64 0) := HZ2.out.cell 0
    have d1 : w2.cell? ⟨w.heap.size, 1, none⟩ = some (.int .i64 0) := HZ2.out.cell 1
    have d2 : w2.cell? ⟨w.heap.size, 2, none⟩ = some (.string ⟨#[]⟩) := HZ2.out.cell 2
    have d3 : w2.cell? ⟨w.heap.size, 3, none⟩ = some (.slice none 0 0) := HZ2.out.cell 3
    have d4 : w2.cell? ⟨w.heap.size, 4, none⟩ = some (.slice none 0 0) := HZ2.out.cell 4
    have f0 : w2.frozen? ⟨w.heap.size, 0, none⟩ = false := HZ2.out.free 0
    have f1 : w2.frozen? ⟨w.heap.size, 1, none⟩ = false := HZ2.out.free 1
    have f2 : w2.frozen? ⟨w.heap.size, 2, none⟩ = false := HZ2.out.free 2
    have f3 : w2.frozen? ⟨w.heap.size, 3, none⟩ = false := HZ2.out.free 3
    have f4 : w2.frozen? ⟨w.heap.size, 4, none⟩ = false := HZ2.out.free 4
    go_wp2
    exact bodyPost_ret (v := .tuple #[.agg #[.int .i64 2, .int .i64 1, .string ⟨#[]⟩, .slice none 0 0, .slice none 0 0], .bool true]) (by simp [results, Tryz.results18, go_sem, d0, d1, d2, d3, d4]) rfl ⟨_, _, _, none, 0, 0, none, 0, 0, true, _, _, rfl, HV2.out.below (set5_below _ _ _ _ _ _ _) hl1 hl2 hl3, HT2.out.below (set5_below _ _ _ _ _ _ _) (Nat.le_refl _), Or.inr ⟨rfl, _, HX.out, by rw [sizeVa, sizeVas]; omega, by rw [sizeVa, sizeVas]; omega, OwnVa.leaf _ _ _ _ _ (by decide)⟩⟩
  | none =>
    have HC := Lib.hid (accE_no ps pa j s ⟨#[35, 116]⟩ w1 HV1.out.rd hx0)
    have E0 := Lib.hid hx0
    clear hx0
    go_wp2_with fail
    refine HC.out.mono ?_
    rintro e w2 ⟨rfl, hr2, hg2⟩
    have hT2 := Turn.of_grown hg2 (X := vrX pa pr) (Or.inl rfl)
    have HV2 := Lib.hid (HV1.out.read hr2 hg2)
    have HT2 := Lib.hid (HT1.out.trans hT2)
    have HZ2 := Lib.hid (turn_stays hT2 HZ1.out (by omega) (by omega))
    clear hr2 hg2 hT2 HC b0 b1 b2 HV1 HT1 HZ1
    have b0 : w2.cell? ⟨pr, 0, none⟩ = some (rdAcc ps pa) := HV2.out.obj.cell 0
    have b1 : w2.cell? ⟨pr, 1, none⟩ = some (rdTak ps pa) := HV2.out.obj.cell 1
    have b2 : w2.cell? ⟨pr, 2, none⟩ = some (rdEnd ps pa) := HV2.out.obj.cell 2
    cases hx1 : eats [35, 102] (restOf s j) with
    | some r =>
      obtain ⟨hle, rfl⟩ := eats_rest (p := ⟨#[35, 102]⟩) HV2.out.rd.le hx1
      have HC := Lib.hid (accE_yes ps pa j s ⟨#[35, 102]⟩ _ w2 HV2.out.rd hs hx1)
      have E1 := Lib.hid hx1
      clear hx1
      go_wp2_with fail
      refine HC.out.mono ?_
      rintro e w3 ⟨rfl, hr2, hg2⟩
      have hT2 := Turn.of_grown hg2 (X := vrX pa pr) (Or.inl rfl)
      have HV3 := Lib.hid (HV2.out.read hr2 hg2)
      have HT3 := Lib.hid (HT2.out.trans hT2)
      have HZ3 := Lib.hid (turn_stays hT2 HZ2.out (by omega) (by omega))
      clear hr2 hg2 hT2 HC b0 b1 b2 HV2 HT2 HZ2
      have HX := Lib.hid (show rdVa (n + 1) (restOf s j) = some (.mk 2 0 ⟨#[]⟩ [] [], restOf s (j + (⟨#[35, 102]⟩ : ByteArray).size)) by simp only [rdVa, E0.out, E1.out])
      have d0 : w3.cell? ⟨w.heap.size, 0, none⟩ = some (.int .i64 0) := HZ3.out.cell 0
      have d1 : w3.cell? ⟨w.heap.size, 1, none⟩ = some (.int .i64 0) := HZ3.out.cell 1
      have d2 : w3.cell? ⟨w.heap.size, 2, none⟩ = some (.string ⟨#[]⟩) := HZ3.out.cell 2
      have d3 : w3.cell? ⟨w.heap.size, 3, none⟩ = some (.slice none 0 0) := HZ3.out.cell 3
      have d4 : w3.cell? ⟨w.heap.size, 4, none⟩ = some (.slice none 0 0) := HZ3.out.cell 4
      have f0 : w3.frozen? ⟨w.heap.size, 0, none⟩ = false := HZ3.out.free 0
      have f1 : w3.frozen? ⟨w.heap.size, 1, none⟩ = false := HZ3.out.free 1
      have f2 : w3.frozen? ⟨w.heap.size, 2, none⟩ = false := HZ3.out.free 2
      have f3 : w3.frozen? ⟨w.heap.size, 3, none⟩ = false := HZ3.out.free 3
      have f4 : w3.frozen? ⟨w.heap.size, 4, none⟩ = false := HZ3.out.free 4
      go_wp2
      exact bodyPost_ret (v := .tuple #[.agg #[.int .i64 2, .int .i64 0, .string ⟨#[]⟩, .slice none 0 0, .slice none 0 0], .bool true]) (by simp [results, Tryz.results18, go_sem, d0, d1, d2, d3, d4]) rfl ⟨_, _, _, none, 0, 0, none, 0, 0, true, _, _, rfl, HV3.out.below (set5_below _ _ _ _ _ _ _) hl1 hl2 hl3, HT3.out.below (set5_below _ _ _ _ _ _ _) (Nat.le_refl _), Or.inr ⟨rfl, _, HX.out, by rw [sizeVa, sizeVas]; omega, by rw [sizeVa, sizeVas]; omega, OwnVa.leaf _ _ _ _ _ (by decide)⟩⟩
    | none =>
      have HC := Lib.hid (accE_no ps pa j s ⟨#[35, 102]⟩ w2 HV2.out.rd hx1)
      have E1 := Lib.hid hx1
      clear hx1
      go_wp2_with fail
      refine HC.out.mono ?_
      rintro e w3 ⟨rfl, hr2, hg2⟩
      have hT2 := Turn.of_grown hg2 (X := vrX pa pr) (Or.inl rfl)
      have HV3 := Lib.hid (HV2.out.read hr2 hg2)
      have HT3 := Lib.hid (HT2.out.trans hT2)
      have HZ3 := Lib.hid (turn_stays hT2 HZ2.out (by omega) (by omega))
      clear hr2 hg2 hT2 HC b0 b1 b2 HV2 HT2 HZ2
      have b0 : w3.cell? ⟨pr, 0, none⟩ = some (rdAcc ps pa) := HV3.out.obj.cell 0
      have b1 : w3.cell? ⟨pr, 1, none⟩ = some (rdTak ps pa) := HV3.out.obj.cell 1
      have b2 : w3.cell? ⟨pr, 2, none⟩ = some (rdEnd ps pa) := HV3.out.obj.cell 2
      cases hx2 : eats [123] (restOf s j) with
      | some r =>
        obtain ⟨hle, rfl⟩ := eats_rest (p := ⟨#[123]⟩) HV3.out.rd.le hx2
        have HC := Lib.hid (accE_yes ps pa j s ⟨#[123]⟩ _ w3 HV3.out.rd hs hx2)
        have E2 := Lib.hid hx2
        clear hx2
        go_wp2_with fail
        refine HC.out.mono ?_
        rintro e w4 ⟨rfl, hr2, hg2⟩
        have hT2 := Turn.of_grown hg2 (X := vrX pa pr) (Or.inl rfl)
        have HV4 := Lib.hid (HV3.out.read hr2 hg2)
        have HT4 := Lib.hid (HT3.out.trans hT2)
        have HZ4 := Lib.hid (turn_stays hT2 HZ3.out (by omega) (by omega))
        clear hr2 hg2 hT2 HC b0 b1 b2 HV3 HT3 HZ3
        have b0 : w4.cell? ⟨pr, 0, none⟩ = some (rdAcc ps pa) := HV4.out.obj.cell 0
        have b1 : w4.cell? ⟨pr, 1, none⟩ = some (rdTak ps pa) := HV4.out.obj.cell 1
        have b2 : w4.cell? ⟨pr, 2, none⟩ = some (rdEnd ps pa) := HV4.out.obj.cell 2
        have HX := Lib.hid (show rdVa (n + 1) (restOf s j) = rdRec (rdVa n) (restOf s (j + (⟨#[123]⟩ : ByteArray).size)) by simp only [rdVa, ← eats_one, E0.out, E1.out, E2.out])
        have HCV := Lib.hid (HRE.out B w4 ps pa pr _ s HV4.out hs)
        clear b0 b1 b2
        go_wp2_with fail
        refine HCV.out.mono ?_
        rintro e w3 ⟨k, n0, nm, L, nl, lc, A, na, ac, ok, j3, m3, rfl, hv3, hT3, hor⟩
        have HV3 := Lib.hid hv3
        have HT3 := Lib.hid (HT4.out.trans hT3)
        have HZ3 := Lib.hid (turn_stays hT3 HZ4.out (by omega) (by omega))
        have HOR := Lib.hid hor
        have hsz3 := HT4.out.size
        have hzl := HZ4.out.lt
        clear hv3 hT3 hor HCV
        have d0 : w3.cell? ⟨w.heap.size, 0, none⟩ = some (.int .i64 0) := HZ3.out.cell 0
        have d1 : w3.cell? ⟨w.heap.size, 1, none⟩ = some (.int .i64 0) := HZ3.out.cell 1
        have d2 : w3.cell? ⟨w.heap.size, 2, none⟩ = some (.string ⟨#[]⟩) := HZ3.out.cell 2
        have d3 : w3.cell? ⟨w.heap.size, 3, none⟩ = some (.slice none 0 0) := HZ3.out.cell 3
        have d4 : w3.cell? ⟨w.heap.size, 4, none⟩ = some (.slice none 0 0) := HZ3.out.cell 4
        have f0 : w3.frozen? ⟨w.heap.size, 0, none⟩ = false := HZ3.out.free 0
        have f1 : w3.frozen? ⟨w.heap.size, 1, none⟩ = false := HZ3.out.free 1
        have f2 : w3.frozen? ⟨w.heap.size, 2, none⟩ = false := HZ3.out.free 2
        have f3 : w3.frozen? ⟨w.heap.size, 3, none⟩ = false := HZ3.out.free 3
        have f4 : w3.frozen? ⟨w.heap.size, 4, none⟩ = false := HZ3.out.free 4
        go_wp2
        refine bodyPost_ret (v := .tuple #[.agg #[.int .i64 k, .int .i64 n0, .string nm, .slice L nl lc, .slice A na ac], .bool ok]) (by simp [results, Tryz.results18, go_sem, d0, d1, d2, d3, d4]) rfl ⟨k, n0, nm, L, nl, lc, A, na, ac, ok, j3, m3, rfl, HV3.out.below (set5_below _ _ _ _ _ _ _) hl1 hl2 hl3, HT3.out.below (set5_below _ _ _ _ _ _ _) (Nat.le_refl _), ?_⟩
        rw [HX.out]
        rcases HOR.out with ⟨h1, h2⟩ | ⟨h1, t, h2, h3, h4, h5⟩
        · exact Or.inl ⟨h1, h2⟩
        · exact Or.inr ⟨h1, t, h2, h3, h4, (h5.set5 _ hzl _ _ _ _ _).base (by omega)⟩
      | none =>
        have HC := Lib.hid (accE_no ps pa j s ⟨#[123]⟩ w3 HV3.out.rd hx2)
        have E2 := Lib.hid hx2
        clear hx2
        go_wp2_with fail
        refine HC.out.mono ?_
        rintro e w4 ⟨rfl, hr2, hg2⟩
        have hT2 := Turn.of_grown hg2 (X := vrX pa pr) (Or.inl rfl)
        have HV4 := Lib.hid (HV3.out.read hr2 hg2)
        have HT4 := Lib.hid (HT3.out.trans hT2)
        have HZ4 := Lib.hid (turn_stays hT2 HZ3.out (by omega) (by omega))
        clear hr2 hg2 hT2 HC b0 b1 b2 HV3 HT3 HZ3
        have b0 : w4.cell? ⟨pr, 0, none⟩ = some (rdAcc ps pa) := HV4.out.obj.cell 0
        have b1 : w4.cell? ⟨pr, 1, none⟩ = some (rdTak ps pa) := HV4.out.obj.cell 1
        have b2 : w4.cell? ⟨pr, 2, none⟩ = some (rdEnd ps pa) := HV4.out.obj.cell 2
        cases hx3 : eats [60] (restOf s j) with
        | some r =>
          obtain ⟨hle, rfl⟩ := eats_rest (p := ⟨#[60]⟩) HV4.out.rd.le hx3
          have HC := Lib.hid (accE_yes ps pa j s ⟨#[60]⟩ _ w4 HV4.out.rd hs hx3)
          have E3 := Lib.hid hx3
          clear hx3
          go_wp2_with fail
          refine HC.out.mono ?_
          rintro e w5 ⟨rfl, hr2, hg2⟩
          have hT2 := Turn.of_grown hg2 (X := vrX pa pr) (Or.inl rfl)
          have HV5 := Lib.hid (HV4.out.read hr2 hg2)
          have HT5 := Lib.hid (HT4.out.trans hT2)
          have HZ5 := Lib.hid (turn_stays hT2 HZ4.out (by omega) (by omega))
          clear hr2 hg2 hT2 HC b0 b1 b2 HV4 HT4 HZ4
          have b0 : w5.cell? ⟨pr, 0, none⟩ = some (rdAcc ps pa) := HV5.out.obj.cell 0
          have b1 : w5.cell? ⟨pr, 1, none⟩ = some (rdTak ps pa) := HV5.out.obj.cell 1
          have b2 : w5.cell? ⟨pr, 2, none⟩ = some (rdEnd ps pa) := HV5.out.obj.cell 2
          have E9 := Lib.hid (show eats [91] (restOf s j) = none by rw [eats_one]; exact eat_two (e := 60) (by decide) ((eats_one 60 _).symm.trans E3.out))
          have HX := Lib.hid (show rdVa (n + 1) (restOf s j) = rdTag (rdVa n) (restOf s (j + (⟨#[60]⟩ : ByteArray).size)) by simp only [rdVa, ← eats_one, E0.out, E1.out, E2.out, E9.out, E3.out])
          have HCV := Lib.hid (HCA.out B w5 ps pa pr _ s HV5.out hs)
          clear b0 b1 b2
          go_wp2_with fail
          refine HCV.out.mono ?_
          rintro e w3 ⟨k, n0, nm, L, nl, lc, A, na, ac, ok, j3, m3, rfl, hv3, hT3, hor⟩
          have HV3 := Lib.hid hv3
          have HT3 := Lib.hid (HT5.out.trans hT3)
          have HZ3 := Lib.hid (turn_stays hT3 HZ5.out (by omega) (by omega))
          have HOR := Lib.hid hor
          have hsz3 := HT5.out.size
          have hzl := HZ5.out.lt
          clear hv3 hT3 hor HCV
          have d0 : w3.cell? ⟨w.heap.size, 0, none⟩ = some (.int .i64 0) := HZ3.out.cell 0
          have d1 : w3.cell? ⟨w.heap.size, 1, none⟩ = some (.int .i64 0) := HZ3.out.cell 1
          have d2 : w3.cell? ⟨w.heap.size, 2, none⟩ = some (.string ⟨#[]⟩) := HZ3.out.cell 2
          have d3 : w3.cell? ⟨w.heap.size, 3, none⟩ = some (.slice none 0 0) := HZ3.out.cell 3
          have d4 : w3.cell? ⟨w.heap.size, 4, none⟩ = some (.slice none 0 0) := HZ3.out.cell 4
          have f0 : w3.frozen? ⟨w.heap.size, 0, none⟩ = false := HZ3.out.free 0
          have f1 : w3.frozen? ⟨w.heap.size, 1, none⟩ = false := HZ3.out.free 1
          have f2 : w3.frozen? ⟨w.heap.size, 2, none⟩ = false := HZ3.out.free 2
          have f3 : w3.frozen? ⟨w.heap.size, 3, none⟩ = false := HZ3.out.free 3
          have f4 : w3.frozen? ⟨w.heap.size, 4, none⟩ = false := HZ3.out.free 4
          go_wp2
          refine bodyPost_ret (v := .tuple #[.agg #[.int .i64 k, .int .i64 n0, .string nm, .slice L nl lc, .slice A na ac], .bool ok]) (by simp [results, Tryz.results18, go_sem, d0, d1, d2, d3, d4]) rfl ⟨k, n0, nm, L, nl, lc, A, na, ac, ok, j3, m3, rfl, HV3.out.below (set5_below _ _ _ _ _ _ _) hl1 hl2 hl3, HT3.out.below (set5_below _ _ _ _ _ _ _) (Nat.le_refl _), ?_⟩
          rw [HX.out]
          rcases HOR.out with ⟨h1, h2⟩ | ⟨h1, t, h2, h3, h4, h5⟩
          · exact Or.inl ⟨h1, h2⟩
          · exact Or.inr ⟨h1, t, h2, h3, h4, (h5.set5 _ hzl _ _ _ _ _).base (by omega)⟩
        | none =>
          have HC := Lib.hid (accE_no ps pa j s ⟨#[60]⟩ w4 HV4.out.rd hx3)
          have E3 := Lib.hid hx3
          clear hx3
          go_wp2_with fail
          refine HC.out.mono ?_
          rintro e w5 ⟨rfl, hr2, hg2⟩
          have hT2 := Turn.of_grown hg2 (X := vrX pa pr) (Or.inl rfl)
          have HV5 := Lib.hid (HV4.out.read hr2 hg2)
          have HT5 := Lib.hid (HT4.out.trans hT2)
          have HZ5 := Lib.hid (turn_stays hT2 HZ4.out (by omega) (by omega))
          clear hr2 hg2 hT2 HC b0 b1 b2 HV4 HT4 HZ4
          have b0 : w5.cell? ⟨pr, 0, none⟩ = some (rdAcc ps pa) := HV5.out.obj.cell 0
          have b1 : w5.cell? ⟨pr, 1, none⟩ = some (rdTak ps pa) := HV5.out.obj.cell 1
          have b2 : w5.cell? ⟨pr, 2, none⟩ = some (rdEnd ps pa) := HV5.out.obj.cell 2
          cases hx4 : eats [91] (restOf s j) with
          | some r =>
            obtain ⟨hle, rfl⟩ := eats_rest (p := ⟨#[91]⟩) HV5.out.rd.le hx4
            have HC := Lib.hid (accE_yes ps pa j s ⟨#[91]⟩ _ w5 HV5.out.rd hs hx4)
            have E4 := Lib.hid hx4
            clear hx4
            go_wp2_with fail
            refine HC.out.mono ?_
            rintro e w6 ⟨rfl, hr2, hg2⟩
            have hT2 := Turn.of_grown hg2 (X := vrX pa pr) (Or.inl rfl)
            have HV6 := Lib.hid (HV5.out.read hr2 hg2)
            have HT6 := Lib.hid (HT5.out.trans hT2)
            have HZ6 := Lib.hid (turn_stays hT2 HZ5.out (by omega) (by omega))
            clear hr2 hg2 hT2 HC b0 b1 b2 HV5 HT5 HZ5
            have b0 : w6.cell? ⟨pr, 0, none⟩ = some (rdAcc ps pa) := HV6.out.obj.cell 0
            have b1 : w6.cell? ⟨pr, 1, none⟩ = some (rdTak ps pa) := HV6.out.obj.cell 1
            have b2 : w6.cell? ⟨pr, 2, none⟩ = some (rdEnd ps pa) := HV6.out.obj.cell 2
            have HX := Lib.hid (show rdVa (n + 1) (restOf s j) = rdList (rdVa n) (restOf s (j + (⟨#[91]⟩ : ByteArray).size)) by simp only [rdVa, ← eats_one, E0.out, E1.out, E2.out, E4.out])
            have HCV := Lib.hid (HLI.out B w6 ps pa pr _ s HV6.out hs)
            clear b0 b1 b2
            go_wp2_with fail
            refine HCV.out.mono ?_
            rintro e w3 ⟨k, n0, nm, L, nl, lc, A, na, ac, ok, j3, m3, rfl, hv3, hT3, hor⟩
            have HV3 := Lib.hid hv3
            have HT3 := Lib.hid (HT6.out.trans hT3)
            have HZ3 := Lib.hid (turn_stays hT3 HZ6.out (by omega) (by omega))
            have HOR := Lib.hid hor
            have hsz3 := HT6.out.size
            have hzl := HZ6.out.lt
            clear hv3 hT3 hor HCV
            have d0 : w3.cell? ⟨w.heap.size, 0, none⟩ = some (.int .i64 0) := HZ3.out.cell 0
            have d1 : w3.cell? ⟨w.heap.size, 1, none⟩ = some (.int .i64 0) := HZ3.out.cell 1
            have d2 : w3.cell? ⟨w.heap.size, 2, none⟩ = some (.string ⟨#[]⟩) := HZ3.out.cell 2
            have d3 : w3.cell? ⟨w.heap.size, 3, none⟩ = some (.slice none 0 0) := HZ3.out.cell 3
            have d4 : w3.cell? ⟨w.heap.size, 4, none⟩ = some (.slice none 0 0) := HZ3.out.cell 4
            have f0 : w3.frozen? ⟨w.heap.size, 0, none⟩ = false := HZ3.out.free 0
            have f1 : w3.frozen? ⟨w.heap.size, 1, none⟩ = false := HZ3.out.free 1
            have f2 : w3.frozen? ⟨w.heap.size, 2, none⟩ = false := HZ3.out.free 2
            have f3 : w3.frozen? ⟨w.heap.size, 3, none⟩ = false := HZ3.out.free 3
            have f4 : w3.frozen? ⟨w.heap.size, 4, none⟩ = false := HZ3.out.free 4
            go_wp2
            refine bodyPost_ret (v := .tuple #[.agg #[.int .i64 k, .int .i64 n0, .string nm, .slice L nl lc, .slice A na ac], .bool ok]) (by simp [results, Tryz.results18, go_sem, d0, d1, d2, d3, d4]) rfl ⟨k, n0, nm, L, nl, lc, A, na, ac, ok, j3, m3, rfl, HV3.out.below (set5_below _ _ _ _ _ _ _) hl1 hl2 hl3, HT3.out.below (set5_below _ _ _ _ _ _ _) (Nat.le_refl _), ?_⟩
            rw [HX.out]
            rcases HOR.out with ⟨h1, h2⟩ | ⟨h1, t, h2, h3, h4, h5⟩
            · exact Or.inl ⟨h1, h2⟩
            · exact Or.inr ⟨h1, t, h2, h3, h4, (h5.set5 _ hzl _ _ _ _ _).base (by omega)⟩
          | none =>
            have HC := Lib.hid (accE_no ps pa j s ⟨#[91]⟩ w5 HV5.out.rd hx4)
            have E4 := Lib.hid hx4
            clear hx4
            go_wp2_with fail
            refine HC.out.mono ?_
            rintro e w6 ⟨rfl, hr2, hg2⟩
            have hT2 := Turn.of_grown hg2 (X := vrX pa pr) (Or.inl rfl)
            have HV6 := Lib.hid (HV5.out.read hr2 hg2)
            have HT6 := Lib.hid (HT5.out.trans hT2)
            have HZ6 := Lib.hid (turn_stays hT2 HZ5.out (by omega) (by omega))
            clear hr2 hg2 hT2 HC b0 b1 b2 HV5 HT5 HZ5
            have b0 : w6.cell? ⟨pr, 0, none⟩ = some (rdAcc ps pa) := HV6.out.obj.cell 0
            have b1 : w6.cell? ⟨pr, 1, none⟩ = some (rdTak ps pa) := HV6.out.obj.cell 1
            have b2 : w6.cell? ⟨pr, 2, none⟩ = some (rdEnd ps pa) := HV6.out.obj.cell 2
            have HX := Lib.hid (show rdVa (n + 1) (restOf s j) = rdIntV (restOf s j) by simp only [rdVa, ← eats_one, E0.out, E1.out, E2.out, E3.out, E4.out])
            have HC := Lib.hid (takeRun_any 47 enters_int intR intC intR_byte intR_high pred_int ps pa j s w6 HV6.out.rd hs)
            go_wp2_with fail
            refine HC.out.mono ?_
            rintro e w8 ⟨k1, hk1, ⟨rfl, hr1, hg1⟩, hd1, ht1⟩
            have hT1 := Turn.of_grown hg1 (X := vrX pa pr) (Or.inl rfl)
            have HV8 := Lib.hid (HV6.out.read hr1 hg1)
            have HT8 := Lib.hid (HT6.out.trans hT1)
            have HZ8 := Lib.hid (turn_stays hT1 HZ6.out (by omega) (by omega))
            have hwz : (s.extract j k1).size ≤ 1048576 := by rw [ByteArray.size_extract]; omega
            have hwd : (s.extract j k1).data.toList = (restOf s j).takeWhile intC := by rw [← ht1]
            have HD := Lib.hid hd1
            clear hr1 hg1 hT1 HC hd1 ht1 b0 b1 b2 HV6 HT6 HZ6
            have hnb : 1 < w8.heap.size := by
              have h1 := HV8.out.nums.b1
              have h2 := HV8.out.ls
              have h3 := HV8.out.lts
              omega
            cases hu : unItoa ((restOf s j).takeWhile intC) with
            | none =>
              have HP := Lib.hid (implParseInt_no (s.extract j k1) w8 hwz (fun z hz1 hz2 he => by rw [← hwd, unItoa_of he hz1 hz2] at hu; cases hu) HV8.out.nums.pow HV8.out.nums.errs hnb)
              have HBAD := Lib.hid (int_no (m + 1) hu)
              clear hu hwd
              go_wp2_with fail
              refine HP.out.mono ?_
              rintro e w9 ⟨rfl, hb9⟩
              have HV9 := Lib.hid (HV8.out.keep hb9)
              have HT9 := Lib.hid (HT8.out.below hb9 HT8.out.size)
              have HZ9 := Lib.hid (HZ8.out.below hb9 HZ8.out.lt)
              clear hb9 HP HV8 HT8 HZ8
              have d0 : w9.cell? ⟨w.heap.size, 0, none⟩ = some (.int .i64 0) := HZ9.out.cell 0
              have d1 : w9.cell? ⟨w.heap.size, 1, none⟩ = some (.int .i64 0) := HZ9.out.cell 1
              have d2 : w9.cell? ⟨w.heap.size, 2, none⟩ = some (.string ⟨#[]⟩) := HZ9.out.cell 2
              have d3 : w9.cell? ⟨w.heap.size, 3, none⟩ = some (.slice none 0 0) := HZ9.out.cell 3
              have d4 : w9.cell? ⟨w.heap.size, 4, none⟩ = some (.slice none 0 0) := HZ9.out.cell 4
              have f0 : w9.frozen? ⟨w.heap.size, 0, none⟩ = false := HZ9.out.free 0
              have f1 : w9.frozen? ⟨w.heap.size, 1, none⟩ = false := HZ9.out.free 1
              have f2 : w9.frozen? ⟨w.heap.size, 2, none⟩ = false := HZ9.out.free 2
              have f3 : w9.frozen? ⟨w.heap.size, 3, none⟩ = false := HZ9.out.free 3
              have f4 : w9.frozen? ⟨w.heap.size, 4, none⟩ = false := HZ9.out.free 4
              go_wp2
              exact bodyPost_ret (v := .tuple #[.agg #[.int .i64 1, .int .i64 0, .string ⟨#[]⟩, .slice none 0 0, .slice none 0 0], .bool false]) (by simp [results, Tryz.results18, go_sem, d0, d1, d2, d3, d4]) rfl ⟨1, 0, ⟨#[]⟩, none, 0, 0, none, 0, 0, false, _, _, rfl, HV9.out.below (set5_below _ _ _ _ _ _ _) hl1 hl2 hl3, HT9.out.below (set5_below _ _ _ _ _ _ _) (Nat.le_refl _), Or.inl ⟨rfl, by rw [HX.out]; exact HBAD.out⟩⟩
            | some z =>
              have hz := unItoa_some hu
              have HP := Lib.hid (implParseInt_yes (s.extract j k1) z w8 hwz hz.2.1 hz.2.2 (hwd.trans hz.1) HV8.out.nums.pow hnb)
              have HXI := Lib.hid (HX.out.trans (int_yes hu))
              clear hu hz hwd
              go_wp2_with fail
              refine HP.out.mono ?_
              rintro e w9 ⟨rfl, hb9⟩
              have HV9 := Lib.hid (HV8.out.keep hb9)
              have HT9 := Lib.hid (HT8.out.below hb9 HT8.out.size)
              have HZ9 := Lib.hid (HZ8.out.below hb9 HZ8.out.lt)
              clear hb9 HP HV8 HT8 HZ8
              have d0 : w9.cell? ⟨w.heap.size, 0, none⟩ = some (.int .i64 0) := HZ9.out.cell 0
              have d1 : w9.cell? ⟨w.heap.size, 1, none⟩ = some (.int .i64 0) := HZ9.out.cell 1
              have d2 : w9.cell? ⟨w.heap.size, 2, none⟩ = some (.string ⟨#[]⟩) := HZ9.out.cell 2
              have d3 : w9.cell? ⟨w.heap.size, 3, none⟩ = some (.slice none 0 0) := HZ9.out.cell 3
              have d4 : w9.cell? ⟨w.heap.size, 4, none⟩ = some (.slice none 0 0) := HZ9.out.cell 4
              have f0 : w9.frozen? ⟨w.heap.size, 0, none⟩ = false := HZ9.out.free 0
              have f1 : w9.frozen? ⟨w.heap.size, 1, none⟩ = false := HZ9.out.free 1
              have f2 : w9.frozen? ⟨w.heap.size, 2, none⟩ = false := HZ9.out.free 2
              have f3 : w9.frozen? ⟨w.heap.size, 3, none⟩ = false := HZ9.out.free 3
              have f4 : w9.frozen? ⟨w.heap.size, 4, none⟩ = false := HZ9.out.free 4
              go_wp2
              exact bodyPost_ret (v := .tuple #[.agg #[.int .i64 1, .int .i64 z, .string ⟨#[]⟩, .slice none 0 0, .slice none 0 0], .bool true]) (by simp [results, Tryz.results18, go_sem, d0, d1, d2, d3, d4]) rfl ⟨1, z, ⟨#[]⟩, none, 0, 0, none, 0, 0, true, _, _, rfl, HV9.out.below (set5_below _ _ _ _ _ _ _) hl1 hl2 hl3, HT9.out.below (set5_below _ _ _ _ _ _ _) (Nat.le_refl _), Or.inr ⟨rfl, .mk 1 z ⟨#[]⟩ [] [], by rw [HXI.out, HD.out], by rw [sizeVa, sizeVas]; omega, by rw [sizeVa, sizeVas]; omega, OwnVa.leaf _ _ _ _ _ (by decide)⟩⟩
end Go.Proofs.YtceclhndagoddaaGreatDoor
