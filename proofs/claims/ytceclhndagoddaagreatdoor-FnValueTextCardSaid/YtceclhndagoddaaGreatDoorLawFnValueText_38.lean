/- Lemmas: RIterF. -/
import Derived.Test.YtceclhndagoddaaGreatDoorLawFnValueText_35
import Derived.Test.YtceclhndagoddaaGreatDoorLawFnValueText_37
import Derived.Test.YtceclhndagoddaaGreatDoorLawFnValueText_27
import Derived.Deep.RegionHeld3
import Derived.Deep.DrawnRows
import Derived.BigGuard
import Derived.BigGuardIn

namespace Go.Proofs.YtceclhndagoddaaGreatDoor
open Go Go.RowKit
attribute [local go_sem] Oper.semAt_some
attribute [local go_sem ↓] Go.wp_at_zero Go.wp_at_succ

set_option maxHeartbeats 4000000 in
set_option maxRecDepth 100000 in
theorem iterField_seq (n M : Nat) (H : ∀ m, m ≤ M → ValR n m) (B : Nat) (w : World) (ps pa pr j : Nat) (s : ByteArray) (hv : VR B w ps pa pr s j M) (hs : s.size ≤ 1048576) (e0 : UInt8) (he : intC e0 = false) (hne : e0 ≠ 44) (bR bE bF : Nat) (t1 t2 t3 : TypeId)
    (h1 : Whole1 w bR t1 #[.pointer (some ⟨pr, 0, none⟩)]) (h2 : Whole1 w bE t2 #[.string ⟨#[e0]⟩]) (h3 : Whole1 w bF t3 #[.func (.func 75) #[.pointer (some ⟨pr, 0, none⟩)] #[]]) (hbR : bR ≠ pa ∧ bR ≠ pr) (hbE : bE ≠ pa ∧ bE ≠ pr) (hbF : bF ≠ pa ∧ bF ≠ pr) (Y : Nat → Prop) (hY1 : ∀ i, Y i → B ≤ i ∧ i ≠ ps ∧ i ≠ pa ∧ i ≠ pr) (hY2 : ¬ Y bR ∧ ¬ Y bE ∧ ¬ Y bF) :
    SeqTurnY Y Fence.wide 6 Tryz.prog 92 #[.pointer (some ⟨bR, 0, none⟩), .pointer (some ⟨bE, 0, none⟩), .pointer (some ⟨bF, 0, none⟩)] PV.enc (vrX pa pr) (PVx (fun b : ByteArray × Va => b.1) (fun b : ByteArray × Va => b.2) M) (PVs (fun b : ByteArray × Va => b.2) B ps pa pr s j M (rdField (rdVa n)) e0) (PVp (fun b : ByteArray × Va => b.2) B ps pa pr s j M (rdField (rdVa n)) e0) w := by
  intro l J Jx W hW hY h0
  have HV0 := Lib.hid (hv.keep hW)
  have HR1 := Lib.hid (h1.below hW h1.lt)
  have HR2 := Lib.hid (h2.below hW h2.lt)
  have HR3 := Lib.hid (h3.below hW h3.lt)
  have hbl : bR < W.heap.size ∧ bE < W.heap.size ∧ bF < W.heap.size := ⟨HR1.out.lt, HR2.out.lt, HR3.out.lt⟩
  have HN := Lib.hid (And.intro hbR (And.intro hbE hbF))
  have HY := Lib.hid hY
  have HY1 := Lib.hid hY1
  have HY2 := Lib.hid hY2
  have HH := Lib.hid H
  have HJ0 := Lib.hid h0
  have HE := Lib.hid he
  have hwl : (ps < w.heap.size ∧ pa < w.heap.size ∧ pr < w.heap.size) ∧ bR < w.heap.size ∧ bE < w.heap.size ∧ bF < w.heap.size := ⟨⟨hv.lts, hv.lta, hv.ltr⟩, h1.lt, h2.lt, h3.lt⟩
  have HWL := Lib.hid hwl
  have c1 : W.cell? ⟨bR, 0, none⟩ = some (.pointer (some ⟨pr, 0, none⟩)) := HR1.out.cell 0
  have c2 : W.cell? ⟨bE, 0, none⟩ = some (.string ⟨#[e0]⟩) := HR2.out.cell 0
  have c3 : W.cell? ⟨pr, 0, none⟩ = some (rdAcc ps pa) := HV0.out.obj.cell 0
  have key : ∃ (b : Bool) (j1 : Nat), Hid ((b = true ∧ rdSeqE (rdField (rdVa n)) e0 (restOf s j) = some ([], restOf s j1)) ∨ (b = false ∧ ∃ k, (restOf s j1).length < k ∧ rdSeqE (rdField (rdVa n)) e0 (restOf s j) = ahead [] (rdLoop (rdField (rdVa n)) e0 k (restOf s j1)))) ∧ Calls Tryz.prog 37 #[.string ⟨#[e0]⟩, .pointer (some ⟨ps, 0, none⟩), .pointer (some ⟨pa, 0, none⟩)] W.drew (ReadR W.drew ps pa s (.bool b) j1) := by
    cases hx : eat e0 (restOf s j) with
    | none =>
      exact ⟨false, j, Lib.hid (Or.inr ⟨rfl, (restOf s j).length + 1, by omega, by rw [ahead_nil, seqE_no hx]⟩), accE_no ps pa j s ⟨#[e0]⟩ W.drew (HV0.out.rd.drewN 1) ((eats_one e0 _).trans hx)⟩
    | some r =>
      have hx1 := (eats_one e0 _).trans hx
      obtain ⟨hle, rfl⟩ := eats_rest (p := ⟨#[e0]⟩) HV0.out.rd.le hx1
      exact ⟨true, _, Lib.hid (Or.inl ⟨rfl, seqE_yes hx⟩), accE_yes ps pa j s ⟨#[e0]⟩ _ W.drew (HV0.out.rd.drewN 1) hs hx1⟩
  obtain ⟨b, j1, HB1, hC⟩ := key
  have HC := Lib.hid hC
  clear hC hv h1 h2 h3 hW hY H h0 hbR hbE hbF he hwl hbl hY1 hY2
  refine callsIn_of_wp Tryz.func92 rfl trivial ?_ rfl
  simp only [Tryz.ntmps92, List.size_toArray, List.length_cons, List.length_nil, Nat.reduceAdd, Nat.reduceSub, Array.replicate_succ, Array.replicate_zero, List.push_toArray, List.append_toArray, List.nil_append, List.cons_append]
  gi_wp2
  refine wpIn_wide.2 ?_
  go_region_held3 (fun x' : World => x'.cell? ⟨bR, 0, none⟩ = some (.pointer (some ⟨pr, 0, none⟩)) ∧ x'.cell? ⟨bE, 0, none⟩ = some (.string ⟨#[e0]⟩) ∧ x'.cell? ⟨pr, 0, none⟩ = some (rdAcc ps pa)) (first | with_reducible exact ⟨c1, c2, c3⟩ | with_reducible exact ⟨y1, y2, y3⟩ | go_keep) (first | (go_simp; go_at_call 37; (with_reducible refine HC.out.mono ?_); rintro e1 w1 ⟨rfl, hr1, hg1'⟩; have hg1 := grown_undrew hg1'; have hT1 := Turn.of_grown hg1 (X := vrX pa pr) (Or.inl rfl); have y1 : w1.cell? ⟨bR, 0, none⟩ = some (.pointer (some ⟨pr, 0, none⟩)) := (turn_stays hT1 HR1.out HN.out.1.1 HN.out.1.2).cell 0; have y2 : w1.cell? ⟨bE, 0, none⟩ = some (.string ⟨#[e0]⟩) := (turn_stays hT1 HR2.out HN.out.2.1.1 HN.out.2.1.2).cell 0; have hV1 := HV0.out.read hr1 hg1; have y3 : w1.cell? ⟨pr, 0, none⟩ = some (rdAcc ps pa) := hV1.obj.cell 0; have HV1 := Lib.hid hV1; have HT1 := Lib.hid hT1; clear hr1 hg1 hg1' hT1 hV1))
  clear c1 c2 c3
  have HR1' := Lib.hid (turn_stays HT1.out HR1.out HN.out.1.1 HN.out.1.2)
  have HR2' := Lib.hid (turn_stays HT1.out HR2.out HN.out.2.1.1 HN.out.2.1.2)
  have HR3' := Lib.hid (turn_stays HT1.out HR3.out HN.out.2.2.1 HN.out.2.2.2)
  clear HR1 HR2 HR3 HC HV0 y1 y2 y3
  gi_wp2
  gi_loopw [5] (fun t5 wr => ∃ (pre : List (PV (ByteArray × Va))) (A : World) (b : Bool) (j1 : Nat), t5 = .bool b ∧ J pre A ∧ Turn (vrX pa pr) A wr ∧ (∀ p ∈ pre, p.ok = true) ∧ nodes (fun b : ByteArray × Va => b.2) pre ≤ M ∧ VR B wr ps pa pr s j1 (M - nodes (fun b : ByteArray × Va => b.2) pre) ∧ (Whole1 wr bR t1 #[.pointer (some ⟨pr, 0, none⟩)] ∧ Whole1 wr bE t2 #[.string ⟨#[e0]⟩] ∧ Whole1 wr bF t3 #[.func (.func 75) #[.pointer (some ⟨pr, 0, none⟩)] #[]]) ∧ ((b = true ∧ rdSeqE (rdField (rdVa n)) e0 (restOf s j) = some (reads pre, restOf s j1)) ∨ (b = false ∧ ∃ k, (restOf s j1).length < k ∧ rdSeqE (rdField (rdVa n)) e0 (restOf s j) = ahead (reads pre) (rdLoop (rdField (rdVa n)) e0 k (restOf s j1))))) (fun t5 wr => match t5 with | .bool true => 0 | _ => s.size - placeAt wr pa + 1)
  case atStart => exact ⟨[], W, b, j1, rfl, HJ0.out, HT1.out, fun p hp => (by cases hp), Nat.zero_le _, HV1.out, ⟨HR1'.out, HR2'.out, HR3'.out⟩, HB1.out⟩
  case round =>
    clear HR1' HR2' HR3' HV1 HT1 HJ0 HB1
    obtain ⟨pre, A, b, j1, rfl, hJ, hTA, hok, hnod, hV, ⟨g1, g2, g3⟩, hmod⟩ := hrel
    rcases hmod with ⟨rfl, hmod⟩ | ⟨rfl, k, hk, hmod⟩
    · gi_wp2
      go_end0
      exact ⟨⟨_, rfl⟩, .inl ⟨pre, A, hJ, hTA, fun _ => ⟨j1, hmod, hnod, hV⟩⟩⟩
    · have HCON := Lib.hid (readField_any n (M - nodes (fun b : ByteArray × Va => b.2) pre) (HH.out _ (by omega)) B wr ps pa pr j1 s hV hs)
      obtain ⟨k, rfl⟩ : ∃ k', k = k' + 1 := ⟨k - 1, by omega⟩
      have HJ := Lib.hid hJ
      have HTA := Lib.hid hTA
      have HOK := Lib.hid hok
      have HG := Lib.hid (And.intro g1 (And.intro g2 g3))
      have HMOD := Lib.hid hmod
      have HK := Lib.hid hk
      have HV := Lib.hid hV
      have hpl := Lib.hid hV.rd.where
      have hpaw := hV.lta
      have c3 : wr.cell? ⟨bF, 0, none⟩ = some (.func (.func 75) #[.pointer (some ⟨pr, 0, none⟩)] #[]) := g3.cell 0
      clear hJ hTA hok g1 g2 g3 hmod hk hV
      gi_wp2_with fail
      refine ⟨trivial, ?_⟩
      refine (callsIn_wide.2 HCON.out).mono ?_
      rintro e1 w3 ⟨l0, k0, n0, nm, L, nl, lc, A3, na, ac, ok, j3, m3, rfl, hv3, hT3, hor⟩
      have HOR := Lib.hid hor
      clear hor HCON c3
      gi_wp2
      have HQ4 := Lib.hid (Whole1.new w3 106 #[.string l0, .int .i64 k0, .int .i64 n0, .string nm, .slice L nl lc, .slice A3 na ac])
      have hb4 := (Below.refl w3.heap.size w3).alloc (Nat.le_refl _) (.cells #[.string l0, .int .i64 k0, .int .i64 n0, .string nm, .slice L nl lc, .slice A3 na ac] 106)
      have HV4 := Lib.hid (hv3.keep hb4)
      have hT4 := hT3.below hb4 hT3.size
      have HT4 := Lib.hid hT4
      have HG4 := Lib.hid (And.intro (turn_stays hT4 HG.out.1 HN.out.1.1 HN.out.1.2) (And.intro (turn_stays hT4 HG.out.2.1 HN.out.2.1.1 HN.out.2.1.2) (turn_stays hT4 HG.out.2.2 HN.out.2.2.1 HN.out.2.2.2)))
      have hqa : w3.heap.size ≠ pa := by have := hv3.lta; omega
      have hqr : w3.heap.size ≠ pr := by have := hv3.ltr; omega
      have HB4 := Lib.hid hb4
      have HS3 := Lib.hid hT3.size
      clear hv3 hT3 hT4 hb4 HG HV
      generalize w3.alloc (.cells #[.string l0, .int .i64 k0, .int .i64 n0, .string nm, .slice L nl lc, .slice A3 na ac] 106) = w4 at *
      have c1 : w4.cell? ⟨bR, 0, none⟩ = some (.pointer (some ⟨pr, 0, none⟩)) := HG4.out.1.cell 0
      have c2 : w4.cell? ⟨bE, 0, none⟩ = some (.string ⟨#[e0]⟩) := HG4.out.2.1.cell 0
      have c3 : w4.cell? ⟨pr, 0, none⟩ = some (rdAcc ps pa) := HV4.out.obj.cell 0
      have key3 : ∃ (b3 : Bool) (j4 : Nat), Hid ((b3 = true ∧ eat e0 (restOf s j3) = some (restOf s j4)) ∨ (b3 = false ∧ eat e0 (restOf s j3) = none ∧ j4 = j3)) ∧ Calls Tryz.prog 37 #[.string ⟨#[e0]⟩, .pointer (some ⟨ps, 0, none⟩), .pointer (some ⟨pa, 0, none⟩)] w4.drew (ReadR w4.drew ps pa s (.bool b3) j4) := by
        have hrd : RAt w4.drew ps pa s j3 := HV4.out.rd.drewN 1
        cases hx : eat e0 (restOf s j3) with
        | none => exact ⟨false, j3, Lib.hid (Or.inr ⟨rfl, rfl, rfl⟩), accE_no ps pa j3 s ⟨#[e0]⟩ w4.drew hrd ((eats_one e0 _).trans hx)⟩
        | some r =>
          have hx1 := (eats_one e0 _).trans hx
          obtain ⟨hle, rfl⟩ := eats_rest (p := ⟨#[e0]⟩) hrd.le hx1
          exact ⟨true, _, Lib.hid (Or.inl ⟨rfl, rfl⟩), accE_yes ps pa j3 s ⟨#[e0]⟩ _ w4.drew hrd hs hx1⟩
      obtain ⟨b3, j4, HB3, hC3⟩ := key3
      have HC3 := Lib.hid hC3
      clear hC3
      refine wpIn_wide.2 ?_
      go_region_held3 (fun x' : World => x'.cell? ⟨bR, 0, none⟩ = some (.pointer (some ⟨pr, 0, none⟩)) ∧ x'.cell? ⟨bE, 0, none⟩ = some (.string ⟨#[e0]⟩) ∧ x'.cell? ⟨pr, 0, none⟩ = some (rdAcc ps pa)) (first | with_reducible exact ⟨c1, c2, c3⟩ | with_reducible exact ⟨y1, y2, y3⟩ | go_keep) (first | (go_simp; go_at_call 37; (with_reducible refine HC3.out.mono ?_); rintro e2 w5 ⟨rfl, hr5, hg5'⟩; have hg5 := grown_undrew hg5'; have hT5 := Turn.of_grown hg5 (X := vrX pa pr) (Or.inl rfl); have hG51 := turn_stays hT5 HG4.out.1 HN.out.1.1 HN.out.1.2; have hG52 := turn_stays hT5 HG4.out.2.1 HN.out.2.1.1 HN.out.2.1.2; have hG53 := turn_stays hT5 HG4.out.2.2 HN.out.2.2.1 HN.out.2.2.2; have y1 : w5.cell? ⟨bR, 0, none⟩ = some (.pointer (some ⟨pr, 0, none⟩)) := hG51.cell 0; have y2 : w5.cell? ⟨bE, 0, none⟩ = some (.string ⟨#[e0]⟩) := hG52.cell 0; have hV5 := HV4.out.read hr5 hg5; have y3 : w5.cell? ⟨pr, 0, none⟩ = some (rdAcc ps pa) := hV5.obj.cell 0; have HV5 := Lib.hid hV5; have HQ5 := Lib.hid (turn_stays hT5 HQ4.out hqa hqr); have HG5 := Lib.hid (And.intro hG51 (And.intro hG52 hG53)); have HT5 := Lib.hid (HT4.out.trans hT5); have HU5 := Lib.hid hg5; clear hr5 hg5 hg5' hT5 hV5 hG51 hG52 hG53))
      clear c1 c2 c3 HC3 HV4 HQ4 HG4 HT4
      have p0 : w5.cell? ⟨w3.heap.size, 0, none⟩ = some (.string l0) := HQ5.out.cell 0
      have p1 : w5.cell? ⟨w3.heap.size, 1, none⟩ = some (.int .i64 k0) := HQ5.out.cell 1
      have p2 : w5.cell? ⟨w3.heap.size, 2, none⟩ = some (.int .i64 n0) := HQ5.out.cell 2
      have p3 : w5.cell? ⟨w3.heap.size, 3, none⟩ = some (.string nm) := HQ5.out.cell 3
      have p4 : w5.cell? ⟨w3.heap.size, 4, none⟩ = some (.slice L nl lc) := HQ5.out.cell 4
      have p5 : w5.cell? ⟨w3.heap.size, 5, none⟩ = some (.slice A3 na ac) := HQ5.out.cell 5
      rcases HOR.out with ⟨rfl, hbad⟩ | ⟨rfl, bb, hx, hlab, hlsz, hsz, rfl, hO⟩
      · have HBAD : Hid (BadL (fun b => formVa ((fun b : ByteArray × Va => b.2) b)) (fun b => sizeVa ((fun b : ByteArray × Va => b.2) b)) M (rdSeqE (rdField (rdVa n)) e0 (restOf s j))) := Lib.hid (by rw [HMOD.out]; exact ahead_bad (reads pre) hnod (loop_bad HE.out hbad))
        clear hbad HOR y1 y2 y3
        have hPx : PVx (fun b : ByteArray × Va => b.1) (fun b : ByteArray × Va => b.2) M pre A (⟨l0, k0, n0, nm, L, nl, lc, A3, na, ac, false, none⟩ : PV (ByteArray × Va)) w5 := fun h => by cases h
        obtain ⟨fn, tmps, assign, body, hy, hR⟩ := HY.out pre (⟨l0, k0, n0, nm, L, nl, lc, A3, na, ac, false, none⟩ : PV (ByteArray × Va)) A w5 HJ.out (HTA.out.trans HT5.out) hPx
        simp only [PV.enc] at hy
        clear hPx
        simp only [Exit.then]
        apply_assumption
        refine wpIn_seq_k (fun K1 hK1 => ?_)
        refine wpIn_wide.2 ?_
        go_wp2
        gi_wp2
        refine hR.mono ?_
        rintro e7 w7 (⟨rfl, hJ7, hb7⟩ | ⟨rfl, hJ7, hb7⟩)
        · gi_wp2
          exact bodyPost_ret (results_none rfl _ _ _) rfl ⟨⟨_, rfl⟩, .inl ⟨_, w7, hJ7, Turn.refl _ _, fun hall => by have := hall _ (List.mem_append_right _ (List.mem_singleton.2 rfl)); cases this⟩⟩
        · gi_wp2
          exact bodyPost_ret (results_none rfl _ _ _) rfl ⟨⟨_, rfl⟩, .inr ⟨_, w7, hJ7, Turn.refl _ _, ⟨_, _, HV5.out.belowX hb7 HWL.out.1.1 HWL.out.1.2.1 HWL.out.1.2.2 HY1.out⟩, fun _ => HBAD.out⟩⟩
      · have HX := Lib.hid hx
        have HLAB := Lib.hid (And.intro hlab hlsz)
        have HO5 := Lib.hid ((hO.keep HB4.out.size fun g _ hg => HB4.out.block g hg).keep HU5.out.size fun g hg hl => HU5.out.block g hl fun e => by injection e with e; have := HWL.out.1.2.1; omega)
        clear hx hlab hlsz hO HOR
        rcases HB3.out with ⟨rfl, h3⟩ | ⟨rfl, h3, rfl⟩
        · have HE3 := Lib.hid h3
          clear h3 y1 y2 y3
          have hnd : nodes (fun b : ByteArray × Va => b.2) (pre ++ [(⟨l0, k0, n0, nm, L, nl, lc, A3, na, ac, true, some bb⟩ : PV (ByteArray × Va))]) = nodes (fun b : ByteArray × Va => b.2) pre + sizeVa bb.2 := nodes_snoc _ _ _ bb rfl
          have HND : Hid (nodes (fun b : ByteArray × Va => b.2) (pre ++ [(⟨l0, k0, n0, nm, L, nl, lc, A3, na, ac, true, some bb⟩ : PV (ByteArray × Va))]) ≤ M) := Lib.hid (by rw [hnd]; omega)
          have HVN : Hid (VR B w5 ps pa pr s j4 (M - nodes (fun b : ByteArray × Va => b.2) (pre ++ [(⟨l0, k0, n0, nm, L, nl, lc, A3, na, ac, true, some bb⟩ : PV (ByteArray × Va))]))) := Lib.hid (by rw [hnd, ← Nat.sub_sub]; exact HV5.out)
          have HRD : Hid (reads (pre ++ [(⟨l0, k0, n0, nm, L, nl, lc, A3, na, ac, true, some bb⟩ : PV (ByteArray × Va))]) = reads pre ++ [bb]) := Lib.hid (reads_snoc _ _ bb rfl)
          have hPx : PVx (fun b : ByteArray × Va => b.1) (fun b : ByteArray × Va => b.2) M pre A (⟨l0, k0, n0, nm, L, nl, lc, A3, na, ac, true, some bb⟩ : PV (ByteArray × Va)) w5 := fun _ => ⟨bb, rfl, HLAB.out.1, HLAB.out.2, HND.out, (HO5.out.base (by have := HTA.out.size; omega))⟩
          obtain ⟨fn, tmps, assign, body, hy, hR⟩ := HY.out pre (⟨l0, k0, n0, nm, L, nl, lc, A3, na, ac, true, some bb⟩ : PV (ByteArray × Va)) A w5 HJ.out (HTA.out.trans HT5.out) hPx
          simp only [PV.enc] at hy
          clear hPx
          gi_wp2
          repeat (refine ⟨fun f hf => (by cases hf), ?_⟩; gi_wp2)
          refine hR.mono ?_
          rintro e7 w7 (⟨rfl, hJ7, hb7⟩ | ⟨rfl, hJ7, hb7⟩)
          · gi_wp2
            go_roundw
            case rel =>
              refine ⟨pre ++ [(⟨l0, k0, n0, nm, L, nl, lc, A3, na, ac, true, some bb⟩ : PV (ByteArray × Va))], w7, true, j4, rfl, hJ7, Turn.refl _ _, ok_snoc HOK.out rfl, HND.out, HVN.out.belowX hb7 HWL.out.1.1 HWL.out.1.2.1 HWL.out.1.2.2 HY1.out, ⟨whole_belowX HG5.out.1 hb7 HWL.out.2.1 HY2.out.1, whole_belowX HG5.out.2.1 hb7 HWL.out.2.2.1 HY2.out.2.1, whole_belowX HG5.out.2.2 hb7 HWL.out.2.2.2 HY2.out.2.2⟩, ?_⟩
              rw [HRD.out, HMOD.out]
              exact Or.inl ⟨rfl, by rw [loop_end hne HX.out HE3.out]; rfl⟩
            case measure =>
              have e7 := (HVN.out.belowX hb7 HWL.out.1.1 HWL.out.1.2.1 HWL.out.1.2.2 HY1.out).rd.where
              have e0 := hpl.out
              simp
          · gi_wp2
            exact bodyPost_ret (results_none rfl _ _ _) rfl ⟨⟨_, rfl⟩, .inr ⟨_, w7, hJ7, Turn.refl _ _, ⟨_, _, HVN.out.belowX hb7 HWL.out.1.1 HWL.out.1.2.1 HWL.out.1.2.2 HY1.out⟩, fun ⟨q, hq, hf⟩ => by rw [ok_snoc HOK.out rfl q hq] at hf; cases hf⟩⟩
        · have HE3 := Lib.hid h3
          clear h3
          have key4 : ∃ (b4 : Bool) (j5 : Nat), Hid ((b4 = true ∧ eat 44 (restOf s j4) = some (restOf s j5)) ∨ (b4 = false ∧ eat 44 (restOf s j4) = none ∧ j5 = j4)) ∧ Calls Tryz.prog 37 #[.string ⟨#[44]⟩, .pointer (some ⟨ps, 0, none⟩), .pointer (some ⟨pa, 0, none⟩)] w5 (ReadR w5 ps pa s (.bool b4) j5) := by
            have hrd : RAt w5 ps pa s j4 := HV5.out.rd
            cases hx : eat 44 (restOf s j4) with
            | none => exact ⟨false, j4, Lib.hid (Or.inr ⟨rfl, rfl, rfl⟩), accE_no ps pa j4 s ⟨#[44]⟩ w5 hrd ((eats_one 44 _).trans hx)⟩
            | some r =>
              have hx1 := (eats_one 44 _).trans hx
              obtain ⟨hle, rfl⟩ := eats_rest (p := ⟨#[44]⟩) hrd.le hx1
              exact ⟨true, _, Lib.hid (Or.inl ⟨rfl, rfl⟩), accE_yes ps pa j4 s ⟨#[44]⟩ _ w5 hrd hs hx1⟩
          obtain ⟨b4, j5, HB4', hC4⟩ := key4
          have HC4 := Lib.hid hC4
          clear hC4
          gi_wp2_with fail
          refine ⟨trivial, ?_⟩
          refine (callsIn_wide.2 HC4.out).mono ?_
          rintro e3 w6 ⟨rfl, hr6, hg6⟩
          have hT6 := Turn.of_grown hg6 (X := vrX pa pr) (Or.inl rfl)
          have HV6 := Lib.hid (HV5.out.read hr6 hg6)
          have HQ6 := Lib.hid (turn_stays hT6 HQ5.out hqa hqr)
          have HG6 := Lib.hid (And.intro (turn_stays hT6 HG5.out.1 HN.out.1.1 HN.out.1.2) (And.intro (turn_stays hT6 HG5.out.2.1 HN.out.2.1.1 HN.out.2.1.2) (turn_stays hT6 HG5.out.2.2 HN.out.2.2.1 HN.out.2.2.2)))
          have HT6 := Lib.hid (HT5.out.trans hT6)
          have HO6 := Lib.hid (HO5.out.keep hg6.size fun g hg hl => hg6.block g hl fun e => by injection e with e; have := HWL.out.1.2.1; omega)
          clear hr6 hg6 hT6 HC4 HV5 HQ5 HG5 HT5 HO5 HU5 y1 y2 y3 p0 p1 p2 p3 p4 p5
          have p0 : w6.cell? ⟨w3.heap.size, 0, none⟩ = some (.string l0) := HQ6.out.cell 0
          have p1 : w6.cell? ⟨w3.heap.size, 1, none⟩ = some (.int .i64 k0) := HQ6.out.cell 1
          have p2 : w6.cell? ⟨w3.heap.size, 2, none⟩ = some (.int .i64 n0) := HQ6.out.cell 2
          have p3 : w6.cell? ⟨w3.heap.size, 3, none⟩ = some (.string nm) := HQ6.out.cell 3
          have p4 : w6.cell? ⟨w3.heap.size, 4, none⟩ = some (.slice L nl lc) := HQ6.out.cell 4
          have p5 : w6.cell? ⟨w3.heap.size, 5, none⟩ = some (.slice A3 na ac) := HQ6.out.cell 5
          rcases HB4'.out with ⟨rfl, h4⟩ | ⟨rfl, h4, rfl⟩
          · have HE4 := Lib.hid h4
            have HMEAS : Hid (j1 < j5 ∧ j5 ≤ s.size ∧ (restOf s j5).length < k) := Lib.hid (by
              have a1 := field_len n HX.out
              have a2 := eat_len h4
              have a3 := HK.out
              have a4 := restOf_len s j1
              have a5 := restOf_len s j5
              have a6 := HV6.out.rd.le
              refine ⟨by omega, a6, by omega⟩)
            clear h4
            have hnd : nodes (fun b : ByteArray × Va => b.2) (pre ++ [(⟨l0, k0, n0, nm, L, nl, lc, A3, na, ac, true, some bb⟩ : PV (ByteArray × Va))]) = nodes (fun b : ByteArray × Va => b.2) pre + sizeVa bb.2 := nodes_snoc _ _ _ bb rfl
            have HND : Hid (nodes (fun b : ByteArray × Va => b.2) (pre ++ [(⟨l0, k0, n0, nm, L, nl, lc, A3, na, ac, true, some bb⟩ : PV (ByteArray × Va))]) ≤ M) := Lib.hid (by rw [hnd]; omega)
            have HVN : Hid (VR B w6 ps pa pr s j5 (M - nodes (fun b : ByteArray × Va => b.2) (pre ++ [(⟨l0, k0, n0, nm, L, nl, lc, A3, na, ac, true, some bb⟩ : PV (ByteArray × Va))]))) := Lib.hid (by rw [hnd, ← Nat.sub_sub]; exact HV6.out)
            have HRD : Hid (reads (pre ++ [(⟨l0, k0, n0, nm, L, nl, lc, A3, na, ac, true, some bb⟩ : PV (ByteArray × Va))]) = reads pre ++ [bb]) := Lib.hid (reads_snoc _ _ bb rfl)
            have hPx : PVx (fun b : ByteArray × Va => b.1) (fun b : ByteArray × Va => b.2) M pre A (⟨l0, k0, n0, nm, L, nl, lc, A3, na, ac, true, some bb⟩ : PV (ByteArray × Va)) w6 := fun _ => ⟨bb, rfl, HLAB.out.1, HLAB.out.2, HND.out, (HO6.out.base (by have := HTA.out.size; omega))⟩
            obtain ⟨fn, tmps, assign, body, hy, hR⟩ := HY.out pre (⟨l0, k0, n0, nm, L, nl, lc, A3, na, ac, true, some bb⟩ : PV (ByteArray × Va)) A w6 HJ.out (HTA.out.trans HT6.out) hPx
            simp only [PV.enc] at hy
            clear hPx
            gi_wp2
            refine hR.mono ?_
            rintro e7 w7 (⟨rfl, hJ7, hb7⟩ | ⟨rfl, hJ7, hb7⟩)
            · gi_wp2
              go_roundw
              case rel =>
                refine ⟨pre ++ [(⟨l0, k0, n0, nm, L, nl, lc, A3, na, ac, true, some bb⟩ : PV (ByteArray × Va))], w7, false, j5, rfl, hJ7, Turn.refl _ _, ok_snoc HOK.out rfl, HND.out, HVN.out.belowX hb7 HWL.out.1.1 HWL.out.1.2.1 HWL.out.1.2.2 HY1.out, ⟨whole_belowX HG6.out.1 hb7 HWL.out.2.1 HY2.out.1, whole_belowX HG6.out.2.1 hb7 HWL.out.2.2.1 HY2.out.2.1, whole_belowX HG6.out.2.2 hb7 HWL.out.2.2.2 HY2.out.2.2⟩, ?_⟩
                rw [HRD.out, HMOD.out]
                exact Or.inr ⟨rfl, k, HMEAS.out.2.2, loop_next (reads pre) HX.out HE4.out⟩
              case measure =>
                have e7 := (HVN.out.belowX hb7 HWL.out.1.1 HWL.out.1.2.1 HWL.out.1.2.2 HY1.out).rd.where
                have e0 := hpl.out
                simp only [e7, e0]
                have h1 := HMEAS.out
                omega
            · gi_wp2
              exact bodyPost_ret (results_none rfl _ _ _) rfl ⟨⟨_, rfl⟩, .inr ⟨_, w7, hJ7, Turn.refl _ _, ⟨_, _, HVN.out.belowX hb7 HWL.out.1.1 HWL.out.1.2.1 HWL.out.1.2.2 HY1.out⟩, fun ⟨q, hq, hf⟩ => by rw [ok_snoc HOK.out rfl q hq] at hf; cases hf⟩⟩
          · have HBAD : Hid (BadL (fun b => formVa ((fun b : ByteArray × Va => b.2) b)) (fun b => sizeVa ((fun b : ByteArray × Va => b.2) b)) M (rdSeqE (rdField (rdVa n)) e0 (restOf s j))) := Lib.hid (by rw [HMOD.out, loop_none HX.out HE3.out h4]; exact Bad.none _ _ _)
            clear h4
            have hPx : PVx (fun b : ByteArray × Va => b.1) (fun b : ByteArray × Va => b.2) M pre A (⟨l0, k0, n0, nm, L, nl, lc, A3, na, ac, false, none⟩ : PV (ByteArray × Va)) w6 := fun h => by cases h
            obtain ⟨fn, tmps, assign, body, hy, hR⟩ := HY.out pre (⟨l0, k0, n0, nm, L, nl, lc, A3, na, ac, false, none⟩ : PV (ByteArray × Va)) A w6 HJ.out (HTA.out.trans HT6.out) hPx
            simp only [PV.enc] at hy
            clear hPx
            gi_wp2
            refine hR.mono ?_
            rintro e7 w7 (⟨rfl, hJ7, hb7⟩ | ⟨rfl, hJ7, hb7⟩)
            · gi_wp2
              exact bodyPost_ret (results_none rfl _ _ _) rfl ⟨⟨_, rfl⟩, .inl ⟨_, w7, hJ7, Turn.refl _ _, fun hall => by have := hall _ (List.mem_append_right _ (List.mem_singleton.2 rfl)); cases this⟩⟩
            · gi_wp2
              exact bodyPost_ret (results_none rfl _ _ _) rfl ⟨⟨_, rfl⟩, .inr ⟨_, w7, hJ7, Turn.refl _ _, ⟨_, _, HV6.out.belowX hb7 HWL.out.1.1 HWL.out.1.2.1 HWL.out.1.2.2 HY1.out⟩, fun _ => HBAD.out⟩⟩
end Go.Proofs.YtceclhndagoddaaGreatDoor
