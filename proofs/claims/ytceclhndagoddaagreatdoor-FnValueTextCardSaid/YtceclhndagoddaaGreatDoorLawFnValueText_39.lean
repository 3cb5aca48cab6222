/- Lemmas: RIterE, RBefore, VArg2, Until. -/
import Derived.Test.YtceclhndagoddaaGreatDoorLawFnValueText_35
import Derived.Test.YtceclhndagoddaaGreatDoorLawFnValueText_33
import Derived.Test.YtceclhndagoddaaGreatDoorLawFnValueText_27
import Derived.Deep.RegionHeld3
import Derived.Deep.DrawnRows
import Derived.BigGuard
import Derived.BigGuardIn
import Derived.Test.YtceclhndagoddaaGreatDoorLawFnValueText_6
import Derived.Test.YtceclhndagoddaaGreatDoorProg
import Derived.OrdersHeld
import Derived.RegionTactic
import Derived.Lib.Hide

section
namespace Go.Proofs.YtceclhndagoddaaGreatDoor
open Go Go.RowKit
attribute [local go_sem] Oper.semAt_some
attribute [local go_sem ↓] Go.wp_at_zero Go.wp_at_succ

set_option maxHeartbeats 4000000 in
set_option maxRecDepth 100000 in
theorem iterElem_seq (n M : Nat) (H : ∀ m, m ≤ M → ValR n m) (B : Nat) (w : World) (ps pa pr j : Nat) (s : ByteArray) (hv : VR B w ps pa pr s j M) (hs : s.size ≤ 1048576) (e0 : UInt8) (he : intC e0 = false) (hne : e0 ≠ 44) (bR bE bF : Nat) (t1 t2 t3 : TypeId)
    (h1 : Whole1 w bR t1 #[.pointer (some ⟨pr, 0, none⟩)]) (h2 : Whole1 w bE t2 #[.string ⟨#[e0]⟩]) (h3 : Whole1 w bF t3 #[.func (.func 77) #[.pointer (some ⟨pr, 0, none⟩)] #[]]) (hbR : bR ≠ pa ∧ bR ≠ pr) (hbE : bE ≠ pa ∧ bE ≠ pr) (hbF : bF ≠ pa ∧ bF ≠ pr) (Y : Nat → Prop) (hY1 : ∀ i, Y i → B ≤ i ∧ i ≠ ps ∧ i ≠ pa ∧ i ≠ pr) (hY2 : ¬ Y bR ∧ ¬ Y bE ∧ ¬ Y bF) :
    SeqTurnY Y Fence.wide 6 Tryz.prog 92 #[.pointer (some ⟨bR, 0, none⟩), .pointer (some ⟨bE, 0, none⟩), .pointer (some ⟨bF, 0, none⟩)] PV.enc (vrX pa pr) (PVx (fun _ : Va => (⟨#[]⟩ : ByteArray)) (fun t : Va => t) M) (PVs (fun t : Va => t) B ps pa pr s j M (rdVa n) e0) (PVp (fun t : Va => t) B ps pa pr s j M (rdVa n) e0) w := by
  intro l J Jx W hW hY h0
  have HV0 := Lib.hid (hv.keep hW)
  have HR1 := Lib.hid (h1.below hW h1.lt)
  have HR2 := Lib.hid (h2.below hW h2.lt)
  have HR3 := Lib.hid (h3.below hW h3.lt)
  have hbl : bR < W.heap.size ∧ bE < W.heap.size ∧ bF < W.heap.size := ⟨HR1.out.lt, HR2.out.lt, HR3.out.lt⟩
  have HN := Lib.hid (And.intro hbR (And.intro hbE hbF))
  have HY := Lib.hid hY
  have HY1 := Lib.hid hY1
  have HY2 := Lib.hid hY2
  have HH := Lib.hid H
  have HJ0 := Lib.hid h0
  have HE := Lib.hid he
  have hwl : (ps < w.heap.size ∧ pa < w.heap.size ∧ pr < w.heap.size) ∧ bR < w.heap.size ∧ bE < w.heap.size ∧ bF < w.heap.size := ⟨⟨hv.lts, hv.lta, hv.ltr⟩, h1.lt, h2.lt, h3.lt⟩
  have HWL := Lib.hid hwl
  have c1 : W.cell? ⟨bR, 0, none⟩ = some (.pointer (some ⟨pr, 0, none⟩)) := HR1.out.cell 0
  have c2 : W.cell? ⟨bE, 0, none⟩ = some (.string ⟨#[e0]⟩) := HR2.out.cell 0
  have c3 : W.cell? ⟨pr, 0, none⟩ = some (rdAcc ps pa) := HV0.out.obj.cell 0
  have key : ∃ (b : Bool) (j1 : Nat), Hid ((b = true ∧ rdSeqE (rdVa n) e0 (restOf s j) = some ([], restOf s j1)) ∨ (b = false ∧ ∃ k, (restOf s j1).length < k ∧ rdSeqE (rdVa n) e0 (restOf s j) = ahead [] (rdLoop (rdVa n) e0 k (restOf s j1)))) ∧ Calls Tryz.prog 37 #[.string ⟨#[e0]⟩, .pointer (some ⟨ps, 0, none⟩), .pointer (some ⟨pa, 0, none⟩)] W.drew (ReadR W.drew ps pa s (.bool b) j1) := by
    cases hx : eat e0 (restOf s j) with
    | none =>
      exact ⟨false, j, Lib.hid (Or.inr ⟨rfl, (restOf s j).length + 1, by omega, by rw [ahead_nil, seqE_no hx]⟩), accE_no ps pa j s ⟨#[e0]⟩ W.drew (HV0.out.rd.drewN 1) ((eats_one e0 _).trans hx)⟩
    | some r =>
      have hx1 := (eats_one e0 _).trans hx
      obtain ⟨hle, rfl⟩ := eats_rest (p := ⟨#[e0]⟩) HV0.out.rd.le hx1
      exact ⟨true, _, Lib.hid (Or.inl ⟨rfl, seqE_yes hx⟩), accE_yes ps pa j s ⟨#[e0]⟩ _ W.drew (HV0.out.rd.drewN 1) hs hx1⟩
  obtain ⟨b, j1, HB1, hC⟩ := key
  have HC := Lib.hid hC
  clear hC hv h1 h2 h3 hW hY H h0 hbR hbE hbF he hwl hbl hY1 hY2
  refine callsIn_of_wp Tryz.func92 rfl trivial ?_ rfl
  simp only [Tryz.ntmps92, List.size_toArray, List.length_cons, List.length_nil, Nat.reduceAdd, Nat.reduceSub, Array.replicate_succ, Array.replicate_zero, List.push_toArray, List.append_toArray, List.nil_append, List.cons_append]
  gi_wp2
  refine wpIn_wide.2 ?_
  go_region_held3 (fun x' : World => x'.cell? ⟨bR, 0, none⟩ = some (.pointer (some ⟨pr, 0, none⟩)) ∧ x'.cell? ⟨bE, 0, none⟩ = some (.string ⟨#[e0]⟩) ∧ x'.cell? ⟨pr, 0, none⟩ = some (rdAcc ps pa)) (first | with_reducible exact ⟨c1, c2, c3⟩ | with_reducible exact ⟨y1, y2, y3⟩ | go_keep) (first | (go_simp; go_at_call 37; (with_reducible refine HC.out.mono ?_); rintro e1 w1 ⟨rfl, hr1, hg1'⟩; have hg1 := grown_undrew hg1'; have hT1 := Turn.of_grown hg1 (X := vrX pa pr) (Or.inl rfl); have y1 : w1.cell? ⟨bR, 0, none⟩ = some (.pointer (some ⟨pr, 0, none⟩)) := (turn_stays hT1 HR1.out HN.out.1.1 HN.out.1.2).cell 0; have y2 : w1.cell? ⟨bE, 0, none⟩ = some (.string ⟨#[e0]⟩) := (turn_stays hT1 HR2.out HN.out.2.1.1 HN.out.2.1.2).cell 0; have hV1 := HV0.out.read hr1 hg1; have y3 : w1.cell? ⟨pr, 0, none⟩ = some (rdAcc ps pa) := hV1.obj.cell 0; have HV1 := Lib.hid hV1; have HT1 := Lib.hid hT1; clear hr1 hg1 hg1' hT1 hV1))
  clear c1 c2 c3
  have HR1' := Lib.hid (turn_stays HT1.out HR1.out HN.out.1.1 HN.out.1.2)
  have HR2' := Lib.hid (turn_stays HT1.out HR2.out HN.out.2.1.1 HN.out.2.1.2)
  have HR3' := Lib.hid (turn_stays HT1.out HR3.out HN.out.2.2.1 HN.out.2.2.2)
  clear HR1 HR2 HR3 HC HV0 y1 y2 y3
  gi_wp2
  gi_loopw [5] (fun t5 wr => ∃ (pre : List (PV Va)) (A : World) (b : Bool) (j1 : Nat), t5 = .bool b ∧ J pre A ∧ Turn (vrX pa pr) A wr ∧ (∀ p ∈ pre, p.ok = true) ∧ nodes (fun t : Va => t) pre ≤ M ∧ VR B wr ps pa pr s j1 (M - nodes (fun t : Va => t) pre) ∧ (Whole1 wr bR t1 #[.pointer (some ⟨pr, 0, none⟩)] ∧ Whole1 wr bE t2 #[.string ⟨#[e0]⟩] ∧ Whole1 wr bF t3 #[.func (.func 77) #[.pointer (some ⟨pr, 0, none⟩)] #[]]) ∧ ((b = true ∧ rdSeqE (rdVa n) e0 (restOf s j) = some (reads pre, restOf s j1)) ∨ (b = false ∧ ∃ k, (restOf s j1).length < k ∧ rdSeqE (rdVa n) e0 (restOf s j) = ahead (reads pre) (rdLoop (rdVa n) e0 k (restOf s j1))))) (fun t5 wr => match t5 with | .bool true => 0 | _ => s.size - placeAt wr pa + 1)
  case atStart => exact ⟨[], W, b, j1, rfl, HJ0.out, HT1.out, fun p hp => (by cases hp), Nat.zero_le _, HV1.out, ⟨HR1'.out, HR2'.out, HR3'.out⟩, HB1.out⟩
  case round =>
    clear HR1' HR2' HR3' HV1 HT1 HJ0 HB1
    obtain ⟨pre, A, b, j1, rfl, hJ, hTA, hok, hnod, hV, ⟨g1, g2, g3⟩, hmod⟩ := hrel
    rcases hmod with ⟨rfl, hmod⟩ | ⟨rfl, k, hk, hmod⟩
    · gi_wp2
      go_end0
      exact ⟨⟨_, rfl⟩, .inl ⟨pre, A, hJ, hTA, fun _ => ⟨j1, hmod, hnod, hV⟩⟩⟩
    · have HCON := Lib.hid (readElement_any n (M - nodes (fun t : Va => t) pre) (HH.out _ (by omega)) B wr ps pa pr j1 s hV hs)
      obtain ⟨k, rfl⟩ : ∃ k', k = k' + 1 := ⟨k - 1, by omega⟩
      have HJ := Lib.hid hJ
      have HTA := Lib.hid hTA
      have HOK := Lib.hid hok
      have HG := Lib.hid (And.intro g1 (And.intro g2 g3))
      have HMOD := Lib.hid hmod
      have HK := Lib.hid hk
      have HV := Lib.hid hV
      have hpl := Lib.hid hV.rd.where
      have hpaw := hV.lta
      have c3 : wr.cell? ⟨bF, 0, none⟩ = some (.func (.func 77) #[.pointer (some ⟨pr, 0, none⟩)] #[]) := g3.cell 0
      clear hJ hTA hok g1 g2 g3 hmod hk hV
      gi_wp2_with fail
      refine ⟨trivial, ?_⟩
      refine (callsIn_wide.2 HCON.out).mono ?_
      rintro e1 w3 ⟨l0, k0, n0, nm, L, nl, lc, A3, na, ac, ok, j3, m3, rfl, hv3, hT3, hor⟩
      have HOR := Lib.hid hor
      clear hor HCON c3
      gi_wp2
      have HQ4 := Lib.hid (Whole1.new w3 106 #[.string l0, .int .i64 k0, .int .i64 n0, .string nm, .slice L nl lc, .slice A3 na ac])
      have hb4 := (Below.refl w3.heap.size w3).alloc (Nat.le_refl _) (.cells #[.string l0, .int .i64 k0, .int .i64 n0, .string nm, .slice L nl lc, .slice A3 na ac] 106)
      have HV4 := Lib.hid (hv3.keep hb4)
      have hT4 := hT3.below hb4 hT3.size
      have HT4 := Lib.hid hT4
      have HG4 := Lib.hid (And.intro (turn_stays hT4 HG.out.1 HN.out.1.1 HN.out.1.2) (And.intro (turn_stays hT4 HG.out.2.1 HN.out.2.1.1 HN.out.2.1.2) (turn_stays hT4 HG.out.2.2 HN.out.2.2.1 HN.out.2.2.2)))
      have hqa : w3.heap.size ≠ pa := by have := hv3.lta; omega
      have hqr : w3.heap.size ≠ pr := by have := hv3.ltr; omega
      have HB4 := Lib.hid hb4
      have HS3 := Lib.hid hT3.size
      clear hv3 hT3 hT4 hb4 HG HV
      generalize w3.alloc (.cells #[.string l0, .int .i64 k0, .int .i64 n0, .string nm, .slice L nl lc, .slice A3 na ac] 106) = w4 at *
      have c1 : w4.cell? ⟨bR, 0, none⟩ = some (.pointer (some ⟨pr, 0, none⟩)) := HG4.out.1.cell 0
      have c2 : w4.cell? ⟨bE, 0, none⟩ = some (.string ⟨#[e0]⟩) := HG4.out.2.1.cell 0
      have c3 : w4.cell? ⟨pr, 0, none⟩ = some (rdAcc ps pa) := HV4.out.obj.cell 0
      have key3 : ∃ (b3 : Bool) (j4 : Nat), Hid ((b3 = true ∧ eat e0 (restOf s j3) = some (restOf s j4)) ∨ (b3 = false ∧ eat e0 (restOf s j3) = none ∧ j4 = j3)) ∧ Calls Tryz.prog 37 #[.string ⟨#[e0]⟩, .pointer (some ⟨ps, 0, none⟩), .pointer (some ⟨pa, 0, none⟩)] w4.drew (ReadR w4.drew ps pa s (.bool b3) j4) := by
        have hrd : RAt w4.drew ps pa s j3 := HV4.out.rd.drewN 1
        cases hx : eat e0 (restOf s j3) with
        | none => exact ⟨false, j3, Lib.hid (Or.inr ⟨rfl, rfl, rfl⟩), accE_no ps pa j3 s ⟨#[e0]⟩ w4.drew hrd ((eats_one e0 _).trans hx)⟩
        | some r =>
          have hx1 := (eats_one e0 _).trans hx
          obtain ⟨hle, rfl⟩ := eats_rest (p := ⟨#[e0]⟩) hrd.le hx1
          exact ⟨true, _, Lib.hid (Or.inl ⟨rfl, rfl⟩), accE_yes ps pa j3 s ⟨#[e0]⟩ _ w4.drew hrd hs hx1⟩
      obtain ⟨b3, j4, HB3, hC3⟩ := key3
      have HC3 := Lib.hid hC3
      clear hC3
      refine wpIn_wide.2 ?_
      go_region_held3 (fun x' : World => x'.cell? ⟨bR, 0, none⟩ = some (.pointer (some ⟨pr, 0, none⟩)) ∧ x'.cell? ⟨bE, 0, none⟩ = some (.string ⟨#[e0]⟩) ∧ x'.cell? ⟨pr, 0, none⟩ = some (rdAcc ps pa)) (first | with_reducible exact ⟨c1, c2, c3⟩ | with_reducible exact ⟨y1, y2, y3⟩ | go_keep) (first | (go_simp; go_at_call 37; (with_reducible refine HC3.out.mono ?_); rintro e2 w5 ⟨rfl, hr5, hg5'⟩; have hg5 := grown_undrew hg5'; have hT5 := Turn.of_grown hg5 (X := vrX pa pr) (Or.inl rfl); have hG51 := turn_stays hT5 HG4.out.1 HN.out.1.1 HN.out.1.2; have hG52 := turn_stays hT5 HG4.out.2.1 HN.out.2.1.1 HN.out.2.1.2; have hG53 := turn_stays hT5 HG4.out.2.2 HN.out.2.2.1 HN.out.2.2.2; have y1 : w5.cell? ⟨bR, 0, none⟩ = some (.pointer (some ⟨pr, 0, none⟩)) := hG51.cell 0; have y2 : w5.cell? ⟨bE, 0, none⟩ = some (.string ⟨#[e0]⟩) := hG52.cell 0; have hV5 := HV4.out.read hr5 hg5; have y3 : w5.cell? ⟨pr, 0, none⟩ = some (rdAcc ps pa) := hV5.obj.cell 0; have HV5 := Lib.hid hV5; have HQ5 := Lib.hid (turn_stays hT5 HQ4.out hqa hqr); have HG5 := Lib.hid (And.intro hG51 (And.intro hG52 hG53)); have HT5 := Lib.hid (HT4.out.trans hT5); have HU5 := Lib.hid hg5; clear hr5 hg5 hg5' hT5 hV5 hG51 hG52 hG53))
      clear c1 c2 c3 HC3 HV4 HQ4 HG4 HT4
      have p0 : w5.cell? ⟨w3.heap.size, 0, none⟩ = some (.string l0) := HQ5.out.cell 0
      have p1 : w5.cell? ⟨w3.heap.size, 1, none⟩ = some (.int .i64 k0) := HQ5.out.cell 1
      have p2 : w5.cell? ⟨w3.heap.size, 2, none⟩ = some (.int .i64 n0) := HQ5.out.cell 2
      have p3 : w5.cell? ⟨w3.heap.size, 3, none⟩ = some (.string nm) := HQ5.out.cell 3
      have p4 : w5.cell? ⟨w3.heap.size, 4, none⟩ = some (.slice L nl lc) := HQ5.out.cell 4
      have p5 : w5.cell? ⟨w3.heap.size, 5, none⟩ = some (.slice A3 na ac) := HQ5.out.cell 5
      rcases HOR.out with ⟨rfl, hbad⟩ | ⟨rfl, bb, hx, hlab, hlsz, hsz, rfl, hO⟩
      · have HBAD : Hid (BadL (fun b => formVa ((fun t : Va => t) b)) (fun b => sizeVa ((fun t : Va => t) b)) M (rdSeqE (rdVa n) e0 (restOf s j))) := Lib.hid (by rw [HMOD.out]; exact ahead_bad (reads pre) hnod (loop_bad HE.out hbad))
        clear hbad HOR y1 y2 y3
        have hPx : PVx (fun _ : Va => (⟨#[]⟩ : ByteArray)) (fun t : Va => t) M pre A (⟨l0, k0, n0, nm, L, nl, lc, A3, na, ac, false, none⟩ : PV Va) w5 := fun h => by cases h
        obtain ⟨fn, tmps, assign, body, hy, hR⟩ := HY.out pre (⟨l0, k0, n0, nm, L, nl, lc, A3, na, ac, false, none⟩ : PV Va) A w5 HJ.out (HTA.out.trans HT5.out) hPx
        simp only [PV.enc] at hy
        clear hPx
        simp only [Exit.then]
        apply_assumption
        refine wpIn_seq_k (fun K1 hK1 => ?_)
        refine wpIn_wide.2 ?_
        go_wp2
        gi_wp2
        refine hR.mono ?_
        rintro e7 w7 (⟨rfl, hJ7, hb7⟩ | ⟨rfl, hJ7, hb7⟩)
        · gi_wp2
          exact bodyPost_ret (results_none rfl _ _ _) rfl ⟨⟨_, rfl⟩, .inl ⟨_, w7, hJ7, Turn.refl _ _, fun hall => by have := hall _ (List.mem_append_right _ (List.mem_singleton.2 rfl)); cases this⟩⟩
        · gi_wp2
          exact bodyPost_ret (results_none rfl _ _ _) rfl ⟨⟨_, rfl⟩, .inr ⟨_, w7, hJ7, Turn.refl _ _, ⟨_, _, HV5.out.belowX hb7 HWL.out.1.1 HWL.out.1.2.1 HWL.out.1.2.2 HY1.out⟩, fun _ => HBAD.out⟩⟩
      · have HX := Lib.hid hx
        have HLAB := Lib.hid (And.intro hlab hlsz)
        have HO5 := Lib.hid ((hO.keep HB4.out.size fun g _ hg => HB4.out.block g hg).keep HU5.out.size fun g hg hl => HU5.out.block g hl fun e => by injection e with e; have := HWL.out.1.2.1; omega)
        clear hx hlab hlsz hO HOR
        rcases HB3.out with ⟨rfl, h3⟩ | ⟨rfl, h3, rfl⟩
        · have HE3 := Lib.hid h3
          clear h3 y1 y2 y3
          have hnd : nodes (fun t : Va => t) (pre ++ [(⟨l0, k0, n0, nm, L, nl, lc, A3, na, ac, true, some bb⟩ : PV Va)]) = nodes (fun t : Va => t) pre + sizeVa bb := nodes_snoc _ _ _ bb rfl
          have HND : Hid (nodes (fun t : Va => t) (pre ++ [(⟨l0, k0, n0, nm, L, nl, lc, A3, na, ac, true, some bb⟩ : PV Va)]) ≤ M) := Lib.hid (by rw [hnd]; omega)
          have HVN : Hid (VR B w5 ps pa pr s j4 (M - nodes (fun t : Va => t) (pre ++ [(⟨l0, k0, n0, nm, L, nl, lc, A3, na, ac, true, some bb⟩ : PV Va)]))) := Lib.hid (by rw [hnd, ← Nat.sub_sub]; exact HV5.out)
          have HRD : Hid (reads (pre ++ [(⟨l0, k0, n0, nm, L, nl, lc, A3, na, ac, true, some bb⟩ : PV Va)]) = reads pre ++ [bb]) := Lib.hid (reads_snoc _ _ bb rfl)
          have hPx : PVx (fun _ : Va => (⟨#[]⟩ : ByteArray)) (fun t : Va => t) M pre A (⟨l0, k0, n0, nm, L, nl, lc, A3, na, ac, true, some bb⟩ : PV Va) w5 := fun _ => ⟨bb, rfl, HLAB.out.1, HLAB.out.2, HND.out, (HO5.out.base (by have := HTA.out.size; omega))⟩
          obtain ⟨fn, tmps, assign, body, hy, hR⟩ := HY.out pre (⟨l0, k0, n0, nm, L, nl, lc, A3, na, ac, true, some bb⟩ : PV Va) A w5 HJ.out (HTA.out.trans HT5.out) hPx
          simp only [PV.enc] at hy
          clear hPx
          gi_wp2
          repeat (refine ⟨fun f hf => (by cases hf), ?_⟩; gi_wp2)
          refine hR.mono ?_
          rintro e7 w7 (⟨rfl, hJ7, hb7⟩ | ⟨rfl, hJ7, hb7⟩)
          · gi_wp2
            go_roundw
            case rel =>
              refine ⟨pre ++ [(⟨l0, k0, n0, nm, L, nl, lc, A3, na, ac, true, some bb⟩ : PV Va)], w7, true, j4, rfl, hJ7, Turn.refl _ _, ok_snoc HOK.out rfl, HND.out, HVN.out.belowX hb7 HWL.out.1.1 HWL.out.1.2.1 HWL.out.1.2.2 HY1.out, ⟨whole_belowX HG5.out.1 hb7 HWL.out.2.1 HY2.out.1, whole_belowX HG5.out.2.1 hb7 HWL.out.2.2.1 HY2.out.2.1, whole_belowX HG5.out.2.2 hb7 HWL.out.2.2.2 HY2.out.2.2⟩, ?_⟩
              rw [HRD.out, HMOD.out]
              exact Or.inl ⟨rfl, by rw [loop_end hne HX.out HE3.out]; rfl⟩
            case measure =>
              have e7 := (HVN.out.belowX hb7 HWL.out.1.1 HWL.out.1.2.1 HWL.out.1.2.2 HY1.out).rd.where
              have e0 := hpl.out
              simp
          · gi_wp2
            exact bodyPost_ret (results_none rfl _ _ _) rfl ⟨⟨_, rfl⟩, .inr ⟨_, w7, hJ7, Turn.refl _ _, ⟨_, _, HVN.out.belowX hb7 HWL.out.1.1 HWL.out.1.2.1 HWL.out.1.2.2 HY1.out⟩, fun ⟨q, hq, hf⟩ => by rw [ok_snoc HOK.out rfl q hq] at hf; cases hf⟩⟩
        · have HE3 := Lib.hid h3
          clear h3
          have key4 : ∃ (b4 : Bool) (j5 : Nat), Hid ((b4 = true ∧ eat 44 (restOf s j4) = some (restOf s j5)) ∨ (b4 = false ∧ eat 44 (restOf s j4) = none ∧ j5 = j4)) ∧ Calls Tryz.prog 37 #[.string ⟨#[44]⟩, .pointer (some ⟨ps, 0, none⟩), .pointer (some ⟨pa, 0, none⟩)] w5 (ReadR w5 ps pa s (.bool b4) j5) := by
            have hrd : RAt w5 ps pa s j4 := HV5.out.rd
            cases hx : eat 44 (restOf s j4) with
            | none => exact ⟨false, j4, Lib.hid (Or.inr ⟨rfl, rfl, rfl⟩), accE_no ps pa j4 s ⟨#[44]⟩ w5 hrd ((eats_one 44 _).trans hx)⟩
            | some r =>
              have hx1 := (eats_one 44 _).trans hx
              obtain ⟨hle, rfl⟩ := eats_rest (p := ⟨#[44]⟩) hrd.le hx1
              exact ⟨true, _, Lib.hid (Or.inl ⟨rfl, rfl⟩), accE_yes ps pa j4 s ⟨#[44]⟩ _ w5 hrd hs hx1⟩
          obtain ⟨b4, j5, HB4', hC4⟩ := key4
          have HC4 := Lib.hid hC4
          clear hC4
          gi_wp2_with fail
          refine ⟨trivial, ?_⟩
          refine (callsIn_wide.2 HC4.out).mono ?_
          rintro e3 w6 ⟨rfl, hr6, hg6⟩
          have hT6 := Turn.of_grown hg6 (X := vrX pa pr) (Or.inl rfl)
          have HV6 := Lib.hid (HV5.out.read hr6 hg6)
          have HQ6 := Lib.hid (turn_stays hT6 HQ5.out hqa hqr)
          have HG6 := Lib.hid (And.intro (turn_stays hT6 HG5.out.1 HN.out.1.1 HN.out.1.2) (And.intro (turn_stays hT6 HG5.out.2.1 HN.out.2.1.1 HN.out.2.1.2) (turn_stays hT6 HG5.out.2.2 HN.out.2.2.1 HN.out.2.2.2)))
          have HT6 := Lib.hid (HT5.out.trans hT6)
          have HO6 := Lib.hid (HO5.out.keep hg6.size fun g hg hl => hg6.block g hl fun e => by injection e with e; have := HWL.out.1.2.1; omega)
          clear hr6 hg6 hT6 HC4 HV5 HQ5 HG5 HT5 HO5 HU5 y1 y2 y3 p0 p1 p2 p3 p4 p5
          have p0 : w6.cell? ⟨w3.heap.size, 0, none⟩ = some (.string l0) := HQ6.out.cell 0
          have p1 : w6.cell? ⟨w3.heap.size, 1, none⟩ = some (.int .i64 k0) := HQ6.out.cell 1
          have p2 : w6.cell? ⟨w3.heap.size, 2, none⟩ = some (.int .i64 n0) := HQ6.out.cell 2
          have p3 : w6.cell? ⟨w3.heap.size, 3, none⟩ = some (.string nm) := HQ6.out.cell 3
          have p4 : w6.cell? ⟨w3.heap.size, 4, none⟩ = some (.slice L nl lc) := HQ6.out.cell 4
          have p5 : w6.cell? ⟨w3.heap.size, 5, none⟩ = some (.slice A3 na ac) := HQ6.out.cell 5
          rcases HB4'.out with ⟨rfl, h4⟩ | ⟨rfl, h4, rfl⟩
          · have HE4 := Lib.hid h4
            have HMEAS : Hid (j1 < j5 ∧ j5 ≤ s.size ∧ (restOf s j5).length < k) := Lib.hid (by
              have a1 := va_len n HX.out
              have a2 := eat_len h4
              have a3 := HK.out
              have a4 := restOf_len s j1
              have a5 := restOf_len s j5
              have a6 := HV6.out.rd.le
              refine ⟨by omega, a6, by omega⟩)
            clear h4
            have hnd : nodes (fun t : Va => t) (pre ++ [(⟨l0, k0, n0, nm, L, nl, lc, A3, na, ac, true, some bb⟩ : PV Va)]) = nodes (fun t : Va => t) pre + sizeVa bb := nodes_snoc _ _ _ bb rfl
            have HND : Hid (nodes (fun t : Va => t) (pre ++ [(⟨l0, k0, n0, nm, L, nl, lc, A3, na, ac, true, some bb⟩ : PV Va)]) ≤ M) := Lib.hid (by rw [hnd]; omega)
            have HVN : Hid (VR B w6 ps pa pr s j5 (M - nodes (fun t : Va => t) (pre ++ [(⟨l0, k0, n0, nm, L, nl, lc, A3, na, ac, true, some bb⟩ : PV Va)]))) := Lib.hid (by rw [hnd, ← Nat.sub_sub]; exact HV6.out)
            have HRD : Hid (reads (pre ++ [(⟨l0, k0, n0, nm, L, nl, lc, A3, na, ac, true, some bb⟩ : PV Va)]) = reads pre ++ [bb]) := Lib.hid (reads_snoc _ _ bb rfl)
            have hPx : PVx (fun _ : Va => (⟨#[]⟩ : ByteArray)) (fun t : Va => t) M pre A (⟨l0, k0, n0, nm, L, nl, lc, A3, na, ac, true, some bb⟩ : PV Va) w6 := fun _ => ⟨bb, rfl, HLAB.out.1, HLAB.out.2, HND.out, (HO6.out.base (by have := HTA.out.size; omega))⟩
            obtain ⟨fn, tmps, assign, body, hy, hR⟩ := HY.out pre (⟨l0, k0, n0, nm, L, nl, lc, A3, na, ac, true, some bb⟩ : PV Va) A w6 HJ.out (HTA.out.trans HT6.out) hPx
            simp only [PV.enc] at hy
            clear hPx
            gi_wp2
            refine hR.mono ?_
            rintro e7 w7 (⟨rfl, hJ7, hb7⟩ | ⟨rfl, hJ7, hb7⟩)
            · gi_wp2
              go_roundw
              case rel =>
                refine ⟨pre ++ [(⟨l0, k0, n0, nm, L, nl, lc, A3, na, ac, true, some bb⟩ : PV Va)], w7, false, j5, rfl, hJ7, Turn.refl _ _, ok_snoc HOK.out rfl, HND.out, HVN.out.belowX hb7 HWL.out.1.1 HWL.out.1.2.1 HWL.out.1.2.2 HY1.out, ⟨whole_belowX HG6.out.1 hb7 HWL.out.2.1 HY2.out.1, whole_belowX HG6.out.2.1 hb7 HWL.out.2.2.1 HY2.out.2.1, whole_belowX HG6.out.2.2 hb7 HWL.out.2.2.2 HY2.out.2.2⟩, ?_⟩
                rw [HRD.out, HMOD.out]
                exact Or.inr ⟨rfl, k, HMEAS.out.2.2, loop_next (reads pre) HX.out HE4.out⟩
              case measure =>
                have e7 := (HVN.out.belowX hb7 HWL.out.1.1 HWL.out.1.2.1 HWL.out.1.2.2 HY1.out).rd.where
                have e0 := hpl.out
                simp only [e7, e0]
                have h1 := HMEAS.out
                omega
            · gi_wp2
              exact bodyPost_ret (results_none rfl _ _ _) rfl ⟨⟨_, rfl⟩, .inr ⟨_, w7, hJ7, Turn.refl _ _, ⟨_, _, HVN.out.belowX hb7 HWL.out.1.1 HWL.out.1.2.1 HWL.out.1.2.2 HY1.out⟩, fun ⟨q, hq, hf⟩ => by rw [ok_snoc HOK.out rfl q hq] at hf; cases hf⟩⟩
          · have HBAD : Hid (BadL (fun b => formVa ((fun t : Va => t) b)) (fun b => sizeVa ((fun t : Va => t) b)) M (rdSeqE (rdVa n) e0 (restOf s j))) := Lib.hid (by rw [HMOD.out, loop_none HX.out HE3.out h4]; exact Bad.none _ _ _)
            clear h4
            have hPx : PVx (fun _ : Va => (⟨#[]⟩ : ByteArray)) (fun t : Va => t) M pre A (⟨l0, k0, n0, nm, L, nl, lc, A3, na, ac, false, none⟩ : PV Va) w6 := fun h => by cases h
            obtain ⟨fn, tmps, assign, body, hy, hR⟩ := HY.out pre (⟨l0, k0, n0, nm, L, nl, lc, A3, na, ac, false, none⟩ : PV Va) A w6 HJ.out (HTA.out.trans HT6.out) hPx
            simp only [PV.enc] at hy
            clear hPx
            gi_wp2
            refine hR.mono ?_
            rintro e7 w7 (⟨rfl, hJ7, hb7⟩ | ⟨rfl, hJ7, hb7⟩)
            · gi_wp2
              exact bodyPost_ret (results_none rfl _ _ _) rfl ⟨⟨_, rfl⟩, .inl ⟨_, w7, hJ7, Turn.refl _ _, fun hall => by have := hall _ (List.mem_append_right _ (List.mem_singleton.2 rfl)); cases this⟩⟩
            · gi_wp2
              exact bodyPost_ret (results_none rfl _ _ _) rfl ⟨⟨_, rfl⟩, .inr ⟨_, w7, hJ7, Turn.refl _ _, ⟨_, _, HV6.out.belowX hb7 HWL.out.1.1 HWL.out.1.2.1 HWL.out.1.2.2 HY1.out⟩, fun _ => HBAD.out⟩⟩
end Go.Proofs.YtceclhndagoddaaGreatDoor
end

section
namespace Go.Proofs.YtceclhndagoddaaGreatDoor
open Go Go.RowKit

set_option maxHeartbeats 1000000 in
theorem partsBefore_any (pr : Nat) (e0 : UInt8) (rf : Nat) (w : World) :
    Calls Tryz.prog 74 #[.pointer (some ⟨pr, 0, none⟩), .string ⟨#[e0]⟩, .func (.func rf) #[.pointer (some ⟨pr, 0, none⟩)] #[]] w fun e w' => ∃ t1 t2 t3, e = .returned (.func (.func 92) #[] #[.pointer (some ⟨w.heap.size, 0, none⟩), .pointer (some ⟨w.heap.size + 1, 0, none⟩), .pointer (some ⟨w.heap.size + 1 + 1, 0, none⟩)]) ∧
      w' = (((w.alloc (.cells #[.pointer (some ⟨pr, 0, none⟩)] t1)).alloc (.cells #[.string ⟨#[e0]⟩] t2)).alloc (.cells #[.func (.func rf) #[.pointer (some ⟨pr, 0, none⟩)] #[]] t3)) := by
  have hmf : ∀ (fn : Fn) (first cap : Array Value) (w : World), (Instr.makeFunc fn first cap).run Tryz.prog w = .ok (.func fn first cap) w := fun _ _ _ _ => rfl
  go_enter Tryz.func74, Tryz.ntmps74
  go_wp2
  go_ret
  exact ⟨_, _, _, rfl, rfl⟩

end Go.Proofs.YtceclhndagoddaaGreatDoor
end

section
namespace Go.Proofs.YtceclhndagoddaaGreatDoor
open Go.RowKit

/-- A tree that lies there already is appended. -/
theorem OwnVAt.arg2 {w w3 : World} {base lc ac lo0 hi0 : Nat} {L A : Option Addr} {t : Va} {xs : List Value} {vs : Nat → Value} {lo hi : Nat → Nat} {g cap : Nat} {a b c d e : Value} (h : OwnVAt w base L lc A ac t xs vs lo hi) (u : Va) (h0 : base ≤ lo0) (h1 : hi0 ≤ w.heap.size) (hm : t.args.length + 1 ≤ maxLen)
    (hu : VaIn w (Span lo0 hi0) (.agg #[a, b, c, d, e]) u) (hpl : ∀ i, i < t.args.length → hi i ≤ lo0) (hL : ∀ q, L = some ⟨q, 0, none⟩ → ¬ Span lo0 hi0 q) (hA : ∀ q, A = some ⟨q, 0, none⟩ → ¬ Span lo0 hi0 q)
    (hown : w3.ownsRow base 27 5 (.slice (some ⟨g, 0, none⟩) (t.args.length + 1) cap) (t.args.length + 1) (xs ++ [a, b, c, d, e])) (hs3 : w.heap.size ≤ w3.heap.size) (hk : ∀ q, base ≤ q → q < w.heap.size → (Value.slice A t.args.length ac).ownBlock ≠ some q → w3.heap[q]? = w.heap[q]?) (hat : (Value.slice A t.args.length ac).ownBlock = some g ∨ w.heap.size ≤ g) :
    OwnVAt w3 base L lc (some ⟨g, 0, none⟩) cap (.mk t.kind t.num t.name t.labels (t.args ++ [u])) (xs ++ [a, b, c, d, e]) (fun i => if i = t.args.length then .agg #[a, b, c, d, e] else vs i) (fun i => if i = t.args.length then lo0 else lo i) (fun i => if i = t.args.length then hi0 else hi i) := by
  have e1 : (t.args ++ [u]).length = t.args.length + 1 := by simp
  have hxl : xs.length = t.args.length * 5 := h.parts.own.1
  have hAo : ∀ q, (Value.slice A t.args.length ac).ownBlock = some q → A = some ⟨q, 0, none⟩ := fun q hq => own_addr h.parts.own q hq
  have hkeep := hk
  have hLk : ∀ q, (Value.slice L t.labels.length lc).ownBlock = some q → w3.heap[q]? = w.heap[q]? := fun q hq =>
    hkeep q (h.row.lt q hq).1 (h.row.lt q hq).2 fun e => (h.far q (own_addr h.row q hq)).1 (hAo q e)
  refine ⟨h.name, h.size, by show (t.args ++ [u]).length ≤ maxLen; omega, own_keep1 h.row hLk, ?_, fun gl hgl => ?_⟩
  · show VGatherAt w3 base (.slice _ (t.args ++ [u]).length cap) (t.args ++ [u]).length (t.args ++ [u]) _ _ _ _
    rw [e1]
    refine ⟨hown, fun i hi' j hj => ?_, fun i hi' => ?_, fun i j hij hj => ?_, fun i hi' q hq => ?_, fun i hi' hik => ?_⟩
    · by_cases ee : i = t.args.length
      · subst ee
        rw [if_pos rfl, List.getElem?_append_right (by omega), hxl]
        have : j = 0 ∨ j = 1 ∨ j = 2 ∨ j = 3 ∨ j = 4 := by omega
        rcases this with rfl | rfl | rfl | rfl | rfl <;> simp [partAt]
      · rw [if_neg ee, List.getElem?_append_left (by omega)]
        exact h.parts.cells i (by omega) j hj
    · by_cases ee : i = t.args.length
      · rw [if_pos ee, if_pos ee]
        omega
      · rw [if_neg ee, if_neg ee]
        have := h.parts.low i (by omega)
        omega
    · rw [if_neg (show i ≠ t.args.length by omega)]
      by_cases ee : j = t.args.length
      · rw [if_pos ee]
        exact hpl i (by omega)
      · rw [if_neg ee]
        exact h.parts.apart i j hij (by omega)
    · have hqg : q = g := (Option.some.inj hq).symm
      subst hqg
      by_cases ee : i = t.args.length
      · rw [if_pos ee, if_pos ee]
        rcases hat with hat | hat
        · exact hA q (hAo q hat)
        · intro hs
          have := hs.2
          omega
      · rw [if_neg ee, if_neg ee]
        rcases hat with hat | hat
        · exact h.parts.free i (by omega) q hat
        · intro hs
          have := hs.2
          have := (h.parts.low i (by omega)).2
          omega
    · by_cases ee : i = t.args.length
      · subst ee
        rw [if_pos rfl, if_pos rfl, if_pos rfl]
        have e2 : (t.args ++ [u])[t.args.length] = u := by simp
        rw [e2]
        refine hu.keep fun q hq hql => hkeep q (by have := hq.1; omega) (by have := hq.2; omega) fun hv => hA q (hAo q hv) hq
      · rw [if_neg ee, if_neg ee, if_neg ee]
        have e2 : (t.args ++ [u])[i] = t.args[i]'(by omega) := List.getElem_append_left (by omega)
        rw [e2]
        exact (h.parts.kids i (by omega) (by omega)).keep fun q hq hql => hkeep q (by have := (h.parts.low i (by omega)).1; have := hq.1; omega) hql fun hv => h.parts.free i (by omega) q hv hq
  · have hlt : gl < w.heap.size := (h.row.lt gl (by rw [hgl]; rfl)).2
    refine ⟨fun e => ?_, fun i hi' hsp => ?_⟩
    · have eg : g = gl := by injection e with e; injection e
      subst eg
      rcases hat with hat | hat
      · exact (h.far g hgl).1 (hAo g hat)
      · omega
    · have hi2 : i < t.args.length + 1 := by rw [← e1]; exact hi'
      by_cases ee : i = t.args.length
      · simp only [ee, if_true] at hsp
        exact hL gl hgl hsp
      · simp only [ee, if_false] at hsp
        exact (h.far gl hgl).2 i (by omega) hsp


end Go.Proofs.YtceclhndagoddaaGreatDoor
end

section
namespace Go.Proofs.YtceclhndagoddaaGreatDoor
open Go

section
variable {P : Program} {md : Region.Mode} {ops : Array Oper} {Q : Exit → Act → World → Prop} {S : World → Prop} {ks : List Nat}

/-- All of ks have come up. -/
def Up (ks : List Nat) (listed : Array Bool) : Prop := ∀ k ∈ ks, listed.getD k false = true

/-- Whatever order is picked: S holds behind each operation until all of ks have come up. -/
def wpUntil (P : Program) (md : Region.Mode) (ops : Array Oper) (Q : Exit → Act → World → Prop) (S : World → Prop) (ks : List Nat) : Nat → Array Bool → Act → World → Prop
  | 0, listed, a, w => Region.ready md ops listed = [] ∧ Q .normal a w
  | f + 1, listed, a, w => (Region.ready md ops listed = [] → Q .normal a w) ∧
      ∀ i ∈ Region.ready md ops listed, wpOp P ops Q i (fun a' w' => (Up ks (listed.setIfInBounds i true) ∨ S w') ∧ wpUntil P md ops Q S ks f (listed.setIfInBounds i true) a' w') a w

theorem any_of_until : ∀ (f : Nat) (listed : Array Bool) (a : Act) (w : World), wpUntil P md ops Q S ks f listed a w → wpAny P md ops Q f listed a w
  | 0, _, _, _, h => h
  | f + 1, _, _, _, h => ⟨h.1, fun i hi => wpOp_mono (fun a' w' h' => any_of_until f _ a' w' h'.2) (h.2 i hi)⟩

theorem not_after {i : Nat} {listed : Array Bool} {oj : Oper} (hi : i ∈ Region.ready md ops listed) (hall : ∀ e ∈ oj.after, Region.binds md e = true → listed.getD e.on false = true) : ∀ e ∈ oj.after, Region.binds md e = true → e.on ≠ i := fun e he hb heq => by
  have h1 := hall e he hb
  have h0 := (mem_ready.1 hi).1
  rw [heq] at h1
  rcases Nat.lt_or_ge i listed.size with h | h
  · simp [h] at h0 h1
    rw [h0] at h1
    cases h1
  · simp [Array.getElem?_eq_none h] at h1

/-- An operation that yields in whatever world, and is none of ks, may be taken first. -/
theorem until_any {i : Nat} {oi : Oper} {v : Value} (hi : ops[i]? = some oi) (hsel : ∀ (j : Nat) (o : Oper) cs b, ops[j]? = some o → o.op ≠ .select cs b) (hQ : ∀ c a w, Q (.panic c) (a.put oi.dst v) w → Q (.panic c) a w) (hks : i ∉ ks) :
    ∀ (f : Nat) (listed : Array Bool) (a : Act) (w : World), (∀ j oj, ops[j]? = some oj → j ≠ i → listed.getD j true = false → (∀ e ∈ oj.after, Region.binds md e = true → e.on ≠ i) → oi.apart ops oj = true) →
      i ∈ Region.ready md ops listed → YieldsIf P ops (fun _ => True) oi v a → (Up ks listed ∨ S w) → wpUntil P md ops Q S ks f (listed.setIfInBounds i true) (a.put oi.dst v) w → wpUntil P md ops Q S ks (f + 1) listed a w := by
  have up : ∀ l : Array Bool, Up ks (l.setIfInBounds i true) → Up ks l := fun l h k hk => by
    have hne : i ≠ k := fun e => hks (e ▸ hk)
    have := h k hk
    rwa [getD_set_ne false hne] at this
  have up' : ∀ l : Array Bool, Up ks l → Up ks (l.setIfInBounds i true) := fun l h k hk => getD_set_true (h k hk)
  intro f
  induction f with
  | zero =>
    intro listed a w _ hr hy hS H
    refine ⟨fun h => (by rw [h] at hr; cases hr), fun j hj => ?_⟩
    by_cases hji : j = i
    · subst hji
      exact hy.wpOp hi trivial ⟨hS.imp (up' _) id, H⟩
    · have := ready_mono hj hji
      rw [H.1] at this
      cases this
  | succ f ih =>
    intro listed a w hfree hr hy hS H
    refine ⟨fun h => (by rw [h] at hr; cases hr), fun j hj => ?_⟩
    by_cases hji : j = i
    · subst hji
      exact hy.wpOp hi trivial ⟨hS.imp (up' _) id, H⟩
    · have h1 := H.2 j (ready_mono hj hji)
      obtain ⟨hjun, oj, hoj, hall⟩ := mem_ready.1 hj
      have h2 := wpOp_putIf hoj (hfree j oj hoj hji hjun (not_after hr hall)) (fun cs b => hsel i oi cs b hi) (fun cs b => hsel j oj cs b hoj) hQ hy h1
      have hfree' : ∀ k ok, ops[k]? = some ok → k ≠ i → (listed.setIfInBounds j true).getD k true = false → (∀ e ∈ ok.after, Region.binds md e = true → e.on ≠ i) → oi.apart ops ok = true := fun k ok hk hki hun hno => by
        refine hfree k ok hk hki ?_ hno
        by_cases hjk : j = k
        · subst hjk
          exact hjun
        · rwa [getD_set_ne true hjk] at hun
      refine wpOp_mono (fun a' w' h3 => ?_) h2
      have h4 := h3.2
      rw [Array.setIfInBounds_comm _ _ (Ne.symm hji)] at h4
      have hs := h4.1.imp (up _) id
      exact ⟨hs, ih (listed.setIfInBounds j true) a' w' hfree' (ready_mono hr (Ne.symm hji)) h3.1 hs h4.2⟩

/-- An operation that yields in every world that meets S may be taken first, if one of ks waits for it. -/
theorem until_held {i k : Nat} {oi ok : Oper} {v : Value} (hi : ops[i]? = some oi) (hsel : ∀ (j : Nat) (o : Oper) cs b, ops[j]? = some o → o.op ≠ .select cs b) (hQ : ∀ c a w, Q (.panic c) (a.put oi.dst v) w → Q (.panic c) a w)
    (hk : k ∈ ks) (hki : i ≠ k) (hok : ops[k]? = some ok) (hwait : ∃ e ∈ ok.after, Region.binds md e = true ∧ e.on = i) :
    ∀ (f : Nat) (listed : Array Bool) (a : Act) (w : World), (∀ j oj, ops[j]? = some oj → j ≠ i → listed.getD j true = false → (∀ e ∈ oj.after, Region.binds md e = true → e.on ≠ i) → oi.apart ops oj = true) →
      i ∈ Region.ready md ops listed → listed.getD k false = false → YieldsIf P ops S oi v a → S w → wpUntil P md ops Q S ks f (listed.setIfInBounds i true) (a.put oi.dst v) w → wpUntil P md ops Q S ks (f + 1) listed a w := by
  intro f
  induction f with
  | zero =>
    intro listed a w _ hr _ hy hS H
    refine ⟨fun h => (by rw [h] at hr; cases hr), fun j hj => ?_⟩
    by_cases hji : j = i
    · subst hji
      exact hy.wpOp hi hS ⟨Or.inr hS, H⟩
    · have := ready_mono hj hji
      rw [H.1] at this
      cases this
  | succ f ih =>
    intro listed a w hfree hr hun hy hS H
    refine ⟨fun h => (by rw [h] at hr; cases hr), fun j hj => ?_⟩
    by_cases hji : j = i
    · subst hji
      exact hy.wpOp hi hS ⟨Or.inr hS, H⟩
    · have h1 := H.2 j (ready_mono hj hji)
      obtain ⟨hjun, oj, hoj, hall⟩ := mem_ready.1 hj
      have hnot := not_after hr hall
      have hjk : j ≠ k := fun e => by
        subst e
        have : oj = ok := Option.some.inj (hoj.symm.trans hok)
        subst this
        obtain ⟨e, he, hb, hon⟩ := hwait
        exact hnot e he hb hon
      have h2 := wpOp_putIf hoj (hfree j oj hoj hji hjun hnot) (fun cs b => hsel i oi cs b hi) (fun cs b => hsel j oj cs b hoj) hQ hy h1
      have hfree' : ∀ k ok, ops[k]? = some ok → k ≠ i → (listed.setIfInBounds j true).getD k true = false → (∀ e ∈ ok.after, Region.binds md e = true → e.on ≠ i) → oi.apart ops ok = true := fun k ok hk hki hun hno => by
        refine hfree k ok hk hki ?_ hno
        by_cases hjk : j = k
        · subst hjk
          exact hjun
        · rwa [getD_set_ne true hjk] at hun
      have hun' : (listed.setIfInBounds j true).getD k false = false := by rwa [getD_set_ne false hjk]
      refine wpOp_mono (fun a' w' h3 => ?_) h2
      have h4 := h3.2
      have hs : S w' := h4.1.resolve_left fun hu => by
        have := hu k hk
        rw [getD_set_ne false hjk, getD_set_ne false hki, hun] at this
        cases this
      rw [Array.setIfInBounds_comm _ _ (Ne.symm hji)] at h4
      exact ⟨Or.inr hs, ih (listed.setIfInBounds j true) a' w' hfree' (ready_mono hr (Ne.symm hji)) hun' h3.1 hs h4.2⟩

/-- Does k wait for i? -/
def waits (md : Region.Mode) (ops : Array Oper) (k i : Nat) : Bool := match ops[k]? with | some ok => ok.after.any (fun e => Region.binds md e && e.on == i) | none => false
theorem waits_spec {k i : Nat} (h : waits md ops k i = true) : ∃ ok, ops[k]? = some ok ∧ ∃ e ∈ ok.after, Region.binds md e = true ∧ e.on = i := by
  unfold waits at h
  split at h
  · rename_i ok hk
    obtain ⟨e, he, hb⟩ := Array.any_eq_true'.1 h
    simp only [Bool.and_eq_true, beq_iff_eq] at hb
    exact ⟨ok, hk, e, he, hb.1, hb.2⟩
  · cases h

theorem take_any {i : Nat} {oi : Oper} {v : Value} {f : Nat} {listed : Array Bool} {a : Act} {w : World} (hi : ops[i]? = some oi) (hs : Region.noSelect ops = true) (hf : Region.free md ops listed i = true) (hr : (Region.ready md ops listed).contains i = true) (hks : ks.contains i = false)
    (hQ : ∀ c a w, Q (.panic c) (a.put oi.dst v) w → Q (.panic c) a w) (hS : Up ks listed ∨ S w) (hy : Region.wanted oi (yielded ops a.tmps) = true ∧ ∀ w, (execOp a.eval oi).run P w = .ok (.value v) w) (h : wpUntil P md ops Q S ks f (listed.setIfInBounds i true) (a.put oi.dst v) w) : wpUntil P md ops Q S ks (f + 1) listed a w :=
  until_any hi (Region.noSelect_spec hs) hQ (by simpa using hks) f listed a w (Region.free_spec hi hf) (by simpa using hr) (Or.inl ⟨hy.1, fun w _ => hy.2 w⟩) hS h
theorem take_held {i : Nat} (k : Nat) {oi : Oper} {v : Value} {f : Nat} {listed : Array Bool} {a : Act} {w : World} (hi : ops[i]? = some oi) (hs : Region.noSelect ops = true) (hf : Region.free md ops listed i = true) (hr : (Region.ready md ops listed).contains i = true) (hk : ks.contains k = true) (hki : decide (i ≠ k) = true) (hw : waits md ops k i = true) (hun : listed.getD k false = false)
    (hQ : ∀ c a w, Q (.panic c) (a.put oi.dst v) w → Q (.panic c) a w) (hS : S w) (hy : Region.wanted oi (yielded ops a.tmps) = true ∧ ∀ w, S w → (execOp a.eval oi).run P w = .ok (.value v) w) (h : wpUntil P md ops Q S ks f (listed.setIfInBounds i true) (a.put oi.dst v) w) : wpUntil P md ops Q S ks (f + 1) listed a w := by
  obtain ⟨ok, hok, hwait⟩ := waits_spec hw
  exact until_held hi (Region.noSelect_spec hs) hQ (by simpa using hk) (by simpa using hki) hok hwait f listed a w (Region.free_spec hi hf) (by simpa using hr) hun (Or.inl hy) hS h

/-- Those that may come up, one after another. -/
def Turns (P : Program) (md : Region.Mode) (ops : Array Oper) (Q : Exit → Act → World → Prop) (S : World → Prop) (ks : List Nat) (f : Nat) (listed : Array Bool) (a : Act) (w : World) (rs : List Nat) : Prop :=
  ∀ i ∈ rs, wpOp P ops Q i (fun a' w' => (Up ks (listed.setIfInBounds i true) ∨ S w') ∧ wpUntil P md ops Q S ks f (listed.setIfInBounds i true) a' w') a w
theorem turns {rs : List Nat} {f : Nat} {listed : Array Bool} {a : Act} {w : World} (hr : Region.ready md ops listed = rs) (hne : rs.isEmpty = false) (h : Turns P md ops Q S ks f listed a w rs) : wpUntil P md ops Q S ks (f + 1) listed a w :=
by
  refine ⟨fun h0 => ?_, ?_⟩
  · rw [hr] at h0
    rw [h0] at hne
    cases hne
  · rw [hr]
    exact h
theorem Turns.nil {f : Nat} {listed : Array Bool} {a : Act} {w : World} : Turns P md ops Q S ks f listed a w [] := fun _ h => by cases h
theorem Turns.cons {f : Nat} {listed : Array Bool} {a : Act} {w : World} {i : Nat} {o : Oper} {rs : List Nat} (ho : ops[i]? = some o)
    (h : ∀ K : Act → World → Prop, RowKit.Hid (∀ a w, (Up ks (listed.setIfInBounds i true) ∨ S w) → wpUntil P md ops Q S ks f (listed.setIfInBounds i true) a w → K a w) → if Region.wanted o (yielded ops a.tmps) = true then Oper.wp P o a w K Q else K (a.put o.dst undef) w)
    (hs : Turns P md ops Q S ks f listed a w rs) : Turns P md ops Q S ks f listed a w (i :: rs) := fun j hj => by
  rcases List.mem_cons.1 hj with rfl | hj
  · exact wpOp_step ho fun K hK => h K (Lib.hid fun a w h1 h2 => hK a w ⟨h1, h2⟩)
  · exact hs j hj
theorem until_done {f : Nat} {listed : Array Bool} {a : Act} {w : World} (hr : Region.ready md ops listed = []) (h : Q .normal a w) : wpUntil P md ops Q S ks f listed a w := by
  cases f with
  | zero => exact ⟨hr, h⟩
  | succ f => exact ⟨fun _ => h, by rw [hr]; simp⟩
def upB (ks : List Nat) (listed : Array Bool) : Bool := ks.all fun k => listed.getD k false
theorem up_of {listed : Array Bool} (h : upB ks listed = true) : Up ks listed := fun k hk => List.all_eq_true.1 h k hk
theorem region_until (S : World → Prop) (ks : List Nat) {id : Nat} {a : Act} {w : World} (hm : P.follows .mixedOrders = true) (h : wpUntil P .any ops Q S ks ops.size (Array.replicate ops.size false) a w.drew) : (Code.region id ops true).wp P Q a w :=
  wp_region_any hm (any_of_until _ _ _ _ h)
end

end Go.Proofs.YtceclhndagoddaaGreatDoor
end
