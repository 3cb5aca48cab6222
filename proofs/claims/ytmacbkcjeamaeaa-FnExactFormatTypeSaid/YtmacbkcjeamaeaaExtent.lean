/- impl.extentOf measures a tree. -/
import Derived.Test.YtmacbkcjeamaeaaFrames
import Derived.Test.YtmacbkcjeamaeaaEqTy
import Derived.Deep.LoopGhost
import Derived.Deep.RegionHeld3
import Derived.Deep.DeepCutAuto
namespace Go.Proofs.Ytmacbkcjeamaeaa
set_option maxRecDepth 100000
open Go.RowKit

theorem zeroExtent (w : World) : (zeroValue 73).run Try.prog w = .ok (.agg #[.int .i64 0, .int .i64 0]) w := by kernel_rfl

theorem infoVisit : (Try.prog.info? 121).map (fun i => (i.zero, i.size, i.bytes)) = some (some (.agg #[.slice none 0 0, .int .i64 0, .int .i64 0, .int .i64 0]), 4, 48) := by kernel_rfl

theorem news4 (w : World) (t : TypeId) (A : Option Addr) (n c : Nat) (a : Int) : CellsAt (w.alloc (.cells #[.slice A n c, .int .i64 a, .int .i64 a, .int .i64 a] t)) (some ⟨w.heap.size, 0, none⟩) [.slice A n c, .int .i64 a, .int .i64 a, .int .i64 a] := by
  refine .inr ⟨_, rfl, fun j u hj => ?_⟩
  rw [WideShapes.add_plain, World.cell?_alloc_at _ _ _ _ rfl, Nat.zero_add]
  simpa using hj
theorem ones4 (A : Option Addr) (n c : Nat) (a : Int) : ∀ u ∈ [Value.slice A n c, .int .i64 a, .int .i64 a, .int .i64 a], u.oneCell' = true := by
  intro u hu
  simp at hu
  rcases hu with rfl | rfl | rfl | rfl <;> rfl

def ExtRet (w : World) (t : Ty) (e : Ending) (w' : World) : Prop := e = .returned (.agg #[.int .i64 (sizeTy t : Int), .int .i64 (depthTy t : Int)]) ∧ Below w.heap.size w w'

set_option maxHeartbeats 4000000 in
theorem extentOf_any (t : Ty) (v : Value) (S : Nat → Prop) (w : World) (hv : TyIn w S v t) (hS : ∀ b, S b → b < w.heap.size) (hsz : sizeTy t ≤ 2000000) :
    Calls Try.prog 58 #[v, .func (.func 44) #[] #[]] w (ExtRet w t) := by
  obtain ⟨L, lc, A, ac, gl, hv0, _, _, _, ha⟩ := hv.open
  have HV := Lib.hid hv
  subst hv0
  clear hv ha
  have hmm := @run_makeMap Try.prog
  obtain ⟨hb2, p2, r2, hs2⟩ := boxes2 w 27 73 #[.int .i64 t.kind, .slice L t.labels.length lc, .slice A t.args.length ac] #[.int .i64 0, .int .i64 0]
  go_enter Try.func58, Try.ntmps58
  go_upto_region 1 with fail
  generalize (w.alloc (.cells #[.int .i64 t.kind, .slice L t.labels.length lc, .slice A t.args.length ac] 27)).alloc (.cells #[.int .i64 0, .int .i64 0] 73) = w2 at *
  have hkn : Known plVal (PlOk w 0 (w.heap.size + 2)) (w2.alloc (.map #[] 0)) (w.heap.size + 2) (fun _ => none) := by rw [← hs2]; exact Known.new w2
  obtain ⟨w3, hrun, hk3, ho3, hs3⟩ := hkn.store (plKit w 0 (w.heap.size + 2)) Try.underlying119 (fun g hg => absurd hg (Nat.not_lt_zero _)) (k := none) (fun g n e => by cases e) (.agg #[.int .i64 0, .int .i64 0])
  have hrun' : (Instr.mapUpdate 119 (.map (some (w.heap.size + 2))) (.agg #[.pointer none, .int .i64 0]) (.agg #[.int .i64 0, .int .i64 0])).run Try.prog (w2.alloc (.map #[] 0)) = .ok () w3 := hrun
  simp only [World.size_alloc] at hs3
  have hb3 : Below w.heap.size w w3 := (hb2.alloc hb2.size (.map #[] 0)).grown ho3 (by simp; omega) (fun q hq => by cases hq; omega)
  have p3 : Whole1 w3 w.heap.size 27 #[.int .i64 t.kind, .slice L t.labels.length lc, .slice A t.args.length ac] := (ho3.block _ (by simp; omega) (fun e => by injection e with e; omega)).trans ((Below.heap_alloc _ _ _ (by omega)).trans p2)
  have r3 : Whole1 w3 (w.heap.size + 1) 73 #[.int .i64 0, .int .i64 0] := (ho3.block _ (by simp; omega) (fun e => by injection e with e; omega)).trans ((Below.heap_alloc _ _ _ (by omega)).trans r2)
  have HK := Lib.hid hk3
  have HP := Lib.hid p3
  have HR := Lib.hid r3
  have q0 : w3.cell? ⟨w.heap.size, 0, none⟩ = some (.int .i64 t.kind) := p3.cell 0
  have q1 : w3.cell? ⟨w.heap.size, 1, none⟩ = some (.slice L t.labels.length lc) := p3.cell 1
  have q2 : w3.cell? ⟨w.heap.size, 2, none⟩ = some (.slice A t.args.length ac) := p3.cell 2
  rw [hs2] at hs3
  clear p2 r2 hk3 p3 r3 hkn hrun ho3
  go_upto_region 3 with fail
  clear hrun' hmm hb2 hs2
  go_wp2
  generalize hw1 : (w3.alloc (.cells #[.int .i64 t.kind, .slice L t.labels.length lc, .slice A t.args.length ac] 27)).alloc _ = w1
  have hstart := Inv.start HV.out hS hsz hb3 hs3 HK.out hw1
  have HR1 : Hid (Whole1 w1 (w.heap.size + 1) 73 #[.int .i64 0, .int .i64 0]) := by
    apply Lib.hid
    rw [← hw1]
    exact (Below.heap_alloc _ _ _ (by simp; omega)).trans ((Below.heap_alloc _ _ _ (by omega)).trans HR.out)
  have hs1 : w1.heap.size = w.heap.size + 5 := by rw [← hw1]; simp [hs3]
  have hmb : ∀ (t : TypeId) (cs : Array Value), ¬ Whole1 w1 (w.heap.size + 2) t cs := by
    obtain ⟨es, clock, h1, _⟩ := hstart.known
    intro t cs h
    unfold Whole1 at h
    rw [h1] at h
    cases h
  have HMB := Lib.hid hmb
  clear HK HP HR HV hw1 hb3 hs3 q0 q1 q2 hmb
  go_loopg [6] (mu ⟨w.heap.size + 3, 1, [t], 0⟩ [] false) (fun gn v wr => ∃ f r F ret, Inv w1 (w.heap.size + 4) (w.heap.size + 2) [t] w wr v f r F ret ∧ mu f r ret = gn)
  case atStart => exact ⟨_, _, _, _, hstart, rfl⟩
  case round =>
    clear hstart
    obtain ⟨f, r, F, ret, hI, hmu⟩ := hrel
    have hlen := hI.stk.len
    have hfok := hI.stk.ok
    have hfl := hfok.2.1
    unfold maxLen at hfl
    have hfle := hI.le
    have hwz := hI.size
    have hcz := hI.call.size
    have HF := Lib.hid hfok
    obtain ⟨q, cap, cur, rfl, hq, hW, hcap, hcap2, hcs, htk, d0, d1, d2, d3⟩ := row_top (hI.own) (stkCells_len r)
    have HI := Lib.hid hI
    have HMU := Lib.hid hmu
    have hql := hW.lt
    clear hI hmu hfok htk
    obtain ⟨n, hn⟩ : ∃ n, n = r.length := ⟨_, rfl⟩
    have HN := Lib.hid hn
    rw [← hn] at d0 d1 d2 d3 hcap hlen ⊢
    clear hn
    have hszk := sizeTys_le f.ts f.k
    have hdpk := depths_le_sizes (f.ts.take f.k)
    have hlt0 : (n : Int) < (n : Int) + 1 := by omega
    by_cases hke : f.k = f.ts.length
    · have hkI : ((f.k : Int) == (f.ts.length : Int)) = true := by rw [beq_iff_eq]; omega
      by_cases hn0 : n = 0
      · subst hn0
        have e0 : wr.cell? ⟨q, 0, none⟩ = some (.slice (some ⟨f.g, 0, none⟩) f.ts.length f.c) := (hW.cell _).trans (by simpa using d0)
        have e1 : wr.cell? ⟨q, 1, none⟩ = some (.int .i64 (f.k : Int)) := (hW.cell _).trans (by simpa using d1)
        have e2 : wr.cell? ⟨q, 2, none⟩ = some (.int .i64 (sizeTys (f.ts.take f.k) : Int)) := (hW.cell _).trans (by simpa using d2)
        have e3 : wr.cell? ⟨q, 3, none⟩ = some (.int .i64 (depthTys (f.ts.take f.k) : Int)) := (hW.cell _).trans (by simpa using d3)
        have hR : Whole1 wr (w.heap.size + 1) 73 #[.int .i64 0, .int .i64 0] := (HI.out.keep _ (by omega) (by omega)).trans HR1.out
        have f0 : wr.frozen? ⟨w.heap.size + 1, 0, none⟩ = false := hR.free 0
        have f1 : wr.frozen? ⟨w.heap.size + 1, 1, none⟩ = false := hR.free 1
        have z0 : wr.cell? ⟨w.heap.size + 1, 0, none⟩ = some (.int .i64 0) := hR.cell 0
        have z1 : wr.cell? ⟨w.heap.size + 1, 1, none⟩ = some (.int .i64 0) := hR.cell 1
        clear hR
        go_upto_region 5 with fail
        clear hke
        go_quiet (fail)
        go_wp2
        have hx : sizeTys (f.ts.take f.k) = sizeTy t ∧ depthTys (f.ts.take f.k) = depthTy t := by
          have h1 : f.k = f.ts.length := by have := beq_iff_eq.1 hkI; omega
          have h2 : f.ts = [t] := by
            have h3 := HI.out.stk
            have h4 : r = [] := List.length_eq_zero_iff.1 HN.out.symm
            rw [h4] at h3
            exact h3.2.1
          rw [h1, List.take_length, h2]
          simp [sizeTys, depthTys]
        have hcall := HI.out.call
        rw [hx.1, hx.2]
        refine bodyPost_ret (v := .agg #[.int .i64 (sizeTy t : Int), .int .i64 (depthTy t : Int)]) (by simp [results, Try.results58, go_sem, z0, z1]) rfl ⟨rfl, (Below.setCell (p := ⟨w.heap.size + 1, 0, none⟩) (hcall.trans (b := wr) (c := wr.drewN nq) ⟨rfl, rfl, rfl, Nat.le_refl _, fun _ _ => rfl⟩) (by simp) _).setCell (p := ⟨w.heap.size + 1, 1, none⟩) (by simp) _⟩
      · obtain ⟨f2, r2, hr⟩ : ∃ f2 r2, r = f2 :: r2 := by
          have := HN.out
          cases r with
          | nil => exact absurd this hn0
          | cons f2 r2 => exact ⟨f2, r2, rfl⟩
        have hnI : ((n : Int) + 1 == 1) = false := by rw [beq_eq_false_iff_ne]; omega
        have hpos : 0 < f.ts.length := List.length_pos_iff.2 HF.out.1
        have HNP := Lib.hid hn0
        have e0 : wr.cell? ⟨q, n * 4, none⟩ = some (.slice (some ⟨f.g, 0, none⟩) f.ts.length f.c) := (hW.cell _).trans d0
        have e1 : wr.cell? ⟨q, n * 4 + 1, none⟩ = some (.int .i64 (f.k : Int)) := (hW.cell _).trans d1
        clear hke hn0 d0 d1
        go_upto_region 5 with fail
        go_quiet (fail)
        have HIa := Lib.hid (HI.out.below hcz ⟨rfl, rfl, rfl, Nat.le_refl _, fun _ _ => rfl⟩ : Inv w1 (w.heap.size + 4) (w.heap.size + 2) [t] w (wr.drewN nq) _ f r F ret)
        have hWa : Whole1 (wr.drewN nq) q 121 cur := hW
        have hqla : q < (wr.drewN nq).heap.size := hql
        have e0a : (wr.drewN nq).cell? ⟨q, n * 4, none⟩ = some (.slice (some ⟨f.g, 0, none⟩) f.ts.length f.c) := e0
        clear e0 e1 HI hW hql hwz hcz
        generalize wr.drewN nq = wa at *
        have e2 : wa.cell? ⟨q, n * 4 + 2, none⟩ = some (.int .i64 (sizeTys (f.ts.take f.k) : Int)) := (hWa.cell _).trans d2
        have e3 : wa.cell? ⟨q, n * 4 + 3, none⟩ = some (.int .i64 (depthTys (f.ts.take f.k) : Int)) := (hWa.cell _).trans d3
        clear d2 d3
        go_upto_region 8 with fail
        have ed := (Below.refl wa.heap.size wa).drew
        have k0 : wa.drew.cell? ⟨q, n * 4, none⟩ = some (.slice (some ⟨f.g, 0, none⟩) f.ts.length f.c) := e0a
        have k2 : wa.drew.cell? ⟨q, n * 4 + 2, none⟩ = some (.int .i64 (sizeTys (f.ts.take f.k) : Int)) := e2
        have k3 : wa.drew.cell? ⟨q, n * 4 + 3, none⟩ = some (.int .i64 (depthTys (f.ts.take f.k) : Int)) := e3
        go_region_held3 (fun x => x.cell? ⟨q, n * 4, none⟩ = some (.slice (some ⟨f.g, 0, none⟩) f.ts.length f.c) ∧ x.cell? ⟨q, n * 4 + 2, none⟩ = some (.int .i64 (sizeTys (f.ts.take f.k) : Int)) ∧ x.cell? ⟨q, n * 4 + 3, none⟩ = some (.int .i64 (depthTys (f.ts.take f.k) : Int)))
          (first | (with_reducible exact ⟨k0, k2, k3⟩) | (with_reducible exact ⟨m0, m2, m3⟩) | (with_reducible exact ⟨o0, o2, o3⟩))
          (first | (go_at_call 82; refine (placeOf_some f.g f.ts.length f.c _ hpos).mono ?_; rintro e w' ⟨rfl, hb1⟩; have hb2 := ed.trans hb1; have m0 := (hb2.cell (p := ⟨q, n * 4, none⟩) hqla).trans e0a; have m2 := (hb2.cell (p := ⟨q, n * 4 + 2, none⟩) hqla).trans e2; have m3 := (hb2.cell (p := ⟨q, n * 4 + 3, none⟩) hqla).trans e3; have hI5 := HIa.out.below HIa.out.call.size hb2; obtain ⟨w5, hrun5, hkn5, ho5⟩ := hI5.known.store (plKit w1 (w.heap.size + 4) (w.heap.size + 2)) Try.underlying119 hI5.keep (Inv.ok_key HMB.out HF.out.2 HF.out.1 f.ts.length) (.agg #[.int .i64 (sizeTys (f.ts.take f.k) : Int), .int .i64 (depthTys (f.ts.take f.k) : Int)]); have hq5 := ho5.1.block q (Nat.lt_of_lt_of_le hqla hb2.size) (fun e => by injection e with e; omega); have o0 := (World.cell?_of_block (a := ⟨q, n * 4, none⟩) hq5).trans m0; have o2 := (World.cell?_of_block (a := ⟨q, n * 4 + 2, none⟩) hq5).trans m2; have o3 := (World.cell?_of_block (a := ⟨q, n * 4 + 3, none⟩) hq5).trans m3))
        have HI5 := Lib.hid hI5
        have HK5 := Lib.hid hkn5
        have HO5 := Lib.hid ho5
        have HR5 := Lib.hid hr
        have hnc : (n : Int) ≤ (cap : Int) := by omega
        clear hI5 hkn5 ho5 hrun5 hr hq5 o0 o2 o3 m0 m2 m3 k0 k2 k3 e0a e2 e3
        go_wp2
        have hr := HR5.out
        subst hr
        have hn2 : n = r2.length + 1 := HN.out
        subst hn2
        go_roundg (mu f2 r2 true)
        case measure => rw [← HMU.out]; exact mu_pop f f2 r2 ret
        case rel =>
          have hke : f.k = f.ts.length := by have := beq_iff_eq.1 hkI; omega
          have hkn := HK5.out
          rw [hke, List.take_length] at hkn
          exact ⟨f2, r2, _, true, HI5.out.pop hke (by omega) (by omega) HO5.out hkn, rfl⟩
    · have hk : f.k < f.ts.length := by omega
      have hkI : ((f.k : Int) == (f.ts.length : Int)) = false := by rw [beq_eq_false_iff_ne]; omega
      have hkI2 : (f.k : Int) < (f.ts.length : Int) := by omega
      obtain ⟨L', lc', A', ac', key, hgB, hgm, c0, c1, c2, hpl, hok, hright, hnew⟩ := HI.out.next hk HMB.out
      have HPL := Lib.hid hpl
      have HOK := Lib.hid hok
      have HRI := Lib.hid hright
      have HNW := Lib.hid hnew
      have HC2 := Lib.hid c2
      have hkeep := fun (x : World) (hx : PlWd w1 (w.heap.size + 4) (w.heap.size + 2) x) (o : Nat) => World.cell?_of_block (w := w1) (w' := x) (a := ⟨f.g, o, none⟩) (hx f.g hgB hgm)
      have y0 := (hkeep wr HI.out.keep _).trans c0
      have y1 := (hkeep wr HI.out.keep _).trans c1
      have y2 := (hkeep wr HI.out.keep _).trans c2
      have e0 : wr.cell? ⟨q, n * 4, none⟩ = some (.slice (some ⟨f.g, 0, none⟩) f.ts.length f.c) := (hW.cell _).trans d0
      have e1 : wr.cell? ⟨q, n * 4 + 1, none⟩ = some (.int .i64 (f.k : Int)) := (hW.cell _).trans d1
      have hst := Lib.hid (sizeTys_take f.ts f.k hk)
      have hdt := Lib.hid (depthTys_take f.ts f.k hk)
      have hse := sizeTy_eq f.ts[f.k]
      have hde := depthTy_eq f.ts[f.k]
      have hle2 := sizeTys_le f.ts (f.k + 1)
      have hds := depths_le_sizes f.ts[f.k].args
      have hsmall : sizeTys (f.ts.take f.k) + sizeTys f.ts[f.k].args + 1 ≤ 2000000 := by have := hst.out; omega
      have HSE := Lib.hid hse
      have HDE := Lib.hid hde
      clear hke hpl hok hright hnew hkeep c0 c1 c2 hse hde hle2
      go_upto_region 5 with fail
      go_quiet (fail)
      have HIa := Lib.hid (HI.out.below hcz ⟨rfl, rfl, rfl, Nat.le_refl _, fun _ _ => rfl⟩ : Inv w1 (w.heap.size + 4) (w.heap.size + 2) [t] w (wr.drewN nq) _ f r F ret)
      have hWa : Whole1 (wr.drewN nq) q 121 cur := hW
      have hqla : q < (wr.drewN nq).heap.size := hql
      have e0a : (wr.drewN nq).cell? ⟨q, n * 4, none⟩ = some (.slice (some ⟨f.g, 0, none⟩) f.ts.length f.c) := e0
      have e1a : (wr.drewN nq).cell? ⟨q, n * 4 + 1, none⟩ = some (.int .i64 (f.k : Int)) := e1
      have y0a : (wr.drewN nq).cell? ⟨f.g, f.k * 3, none⟩ = some (.int .i64 f.ts[f.k].kind) := y0
      have y1a : (wr.drewN nq).cell? ⟨f.g, f.k * 3 + 1, none⟩ = some (.slice L' f.ts[f.k].labels.length lc') := y1
      have y2a : (wr.drewN nq).cell? ⟨f.g, f.k * 3 + 2, none⟩ = some (.slice A' f.ts[f.k].args.length ac') := y2
      clear e0 e1 HI hW hql hwz hcz y0 y1 y2
      generalize wr.drewN nq = wa at *
      go_upto_region 10 with fail
      refine wp_region_still_tail 11 (by kernel_rfl) (by kernel_rfl) ?_
      simp only [List.take_succ_cons, List.take_zero, List.drop_succ_cons, List.drop_zero]
      repeat still_step
      refine wpStill_nil ?_
      change wpList _ _ _ _ _ wa.drew
      have HIb := Lib.hid (HIa.out.below HIa.out.call.size ⟨rfl, rfl, rfl, Nat.le_refl _, fun _ _ => rfl⟩ : Inv w1 (w.heap.size + 4) (w.heap.size + 2) [t] w wa.drew _ f r F ret)
      have hWb : Whole1 wa.drew q 121 cur := hWa
      have hqlb : q < wa.drew.heap.size := hqla
      clear HIa hWa hqla e0a e1a y0a y1a y2a
      generalize wa.drew = wb at *
      go_wp2_with fail
      refine (argsOf_any _ _ _ wb).mono ?_
      rintro e w5 ⟨rfl, hb5⟩
      have HI5 := Lib.hid (HIb.out.below HIb.out.call.size hb5)
      have hW5 := hWb.below hb5 hqlb
      have hql5 := hW5.lt
      clear HIb hWb hqlb hb5
      go_wp2_with fail
      refine (HPL.out w5).mono ?_
      rintro e w6 ⟨rfl, hb6⟩
      have hI6 := HI5.out.below HI5.out.call.size hb6
      have hW6 := hW5.below hb6 hql5
      have hql6 := hW6.lt
      have hlook := hI6.known.look (plKit w1 (w.heap.size + 4) (w.heap.size + 2)) Try.underlying119 (zeroExtent w6) hI6.keep HOK.out
      have HI6 := Lib.hid hI6
      clear HI5 hW5 hql5 hb6 hI6
      cases hF : F key with
      | some u =>
        have hu := HRI.out u hF
        subst hu
        rw [hF] at hlook
        have hl2 : (Instr.lookup 119 (.map (some (w.heap.size + 2))) (plVal key) true).run Try.prog w6 = .ok (.tuple #[.agg #[.int .i64 (sizeTys f.ts[f.k].args : Int), .int .i64 (depthTys f.ts[f.k].args : Int)], .bool true]) w6 := hlook
        clear hlook hF
        go_upto_region 13 with fail
        have hb7 := (Below.refl w6.heap.size w6).alloc (Nat.le_refl _) (.cells #[.int .i64 (sizeTys f.ts[f.k].args : Int), .int .i64 (depthTys f.ts[f.k].args : Int)] 73)
        have HI7 := Lib.hid (HI6.out.below HI6.out.call.size hb7)
        have hW7 := hW6.below hb7 hql6
        have hin := Whole1.new w6 73 #[.int .i64 (sizeTys f.ts[f.k].args : Int), .int .i64 (depthTys f.ts[f.k].args : Int)]
        clear hl2 HI6 hW6 hb7
        generalize w6.alloc (.cells #[.int .i64 (sizeTys f.ts[f.k].args : Int), .int .i64 (depthTys f.ts[f.k].args : Int)] 73) = w7 at *
        have i0 : w7.cell? ⟨w6.heap.size, 0, none⟩ = some (.int .i64 (sizeTys f.ts[f.k].args : Int)) := hin.cell 0
        have i1 : w7.cell? ⟨w6.heap.size, 1, none⟩ = some (.int .i64 (depthTys f.ts[f.k].args : Int)) := hin.cell 1
        refine wp_region_still_tail 4 (by kernel_rfl) (by kernel_rfl) ?_
        simp only [List.take_succ_cons, List.take_zero, List.drop_succ_cons, List.drop_zero]
        repeat still_step
        refine wpStill_nil ?_
        change wpList _ _ _ _ _ w7.drew
        have HI8 := Lib.hid (HI7.out.below HI7.out.call.size ⟨rfl, rfl, rfl, Nat.le_refl _, fun _ _ => rfl⟩ : Inv w1 (w.heap.size + 4) (w.heap.size + 2) [t] w w7.drew _ f r F ret)
        have hW8 : Whole1 w7.drew q 121 cur := hW7
        clear HI7 hW7 i0 i1 hin
        generalize w7.drew = w8 at *
        have HAD := Lib.hid (addNode_any w8 q (n * 4 + 2) _ cur _ _ (sizeTys f.ts[f.k].args) (depthTys f.ts[f.k].args) hW8 d2 d3 (by omega) (by omega))
        have HW8 := Lib.hid hW8
        have D0 := Lib.hid d0
        have D1 := Lib.hid d1
        have D2 := Lib.hid d2
        have D3 := Lib.hid d3
        clear hW8 d0 d1 d2 d3
        go_wp2_with fail
        refine HAD.out.mono ?_
        rintro e w9 ⟨rfl, hW9, hg9⟩
        have hs1' : n * 4 + 3 < cur.size := (Array.getElem?_eq_some_iff.1 D3.out).1
        have e1 : w9.cell? ⟨q, n * 4 + 1, none⟩ = some (.int .i64 (f.k : Int)) := (hW9.cell _).trans (by rw [Array.getElem?_setIfInBounds, if_neg (by omega), Array.getElem?_setIfInBounds, if_neg (by omega)]; exact D1.out)
        have f1 : w9.frozen? ⟨q, n * 4 + 1, none⟩ = false := hW9.free _
        have HW9 := Lib.hid (hW9.set (n * 4 + 1) (.int .i64 ((f.k + 1 : Nat) : Int)))
        have HG9 := Lib.hid (only_set hg9 (n * 4 + 1) (.int .i64 ((f.k + 1 : Nat) : Int)))
        clear hW9 hg9 HAD
        go_wp2
        have hn2 := HN.out
        subst hn2
        go_roundg (mu { f with k := f.k + 1 } r false)
        case measure => rw [← HMU.out]; exact mu_add f r ret hk
        case rel =>
          refine ⟨_, r, F, false, HI8.out.add hk (by omega) (by omega) HW8.out HW9.out HG9.out (by simp) (fun i hi => ?_) ?_ ?_ ?_, rfl⟩
          · rw [Array.getElem?_setIfInBounds, if_neg (by omega), Array.getElem?_setIfInBounds, if_neg (by omega), Array.getElem?_setIfInBounds, if_neg (by omega)]
          · rw [Array.getElem?_setIfInBounds, if_pos rfl, if_pos (by simp; omega)]
          · rw [Array.getElem?_setIfInBounds, if_neg (by omega), Array.getElem?_setIfInBounds, if_neg (by omega), Array.getElem?_setIfInBounds, if_pos rfl, if_pos (by omega), hst.out, HSE.out]
            congr 3
            omega
          · rw [Array.getElem?_setIfInBounds, if_neg (by omega), Array.getElem?_setIfInBounds, if_pos rfl, if_pos (by simp; omega), hdt.out, HDE.out]
      | none =>
        obtain ⟨hret, h0, g', rfl, rfl, hargs⟩ := HNW.out hF
        subst hret
        rw [hF] at hlook
        have hl2 : (Instr.lookup 119 (.map (some (w.heap.size + 2))) (plVal (some (g', f.ts[f.k].args.length))) true).run Try.prog w6 = .ok (.tuple #[.agg #[.int .i64 0, .int .i64 0], .bool false]) w6 := hlook
        have HARG := Lib.hid hargs
        have H0 := Lib.hid h0
        clear hlook hF hargs h0 HNW HRI
        go_upto_region 15 with fail
        have hb7 := (Below.refl w6.heap.size w6).alloc (Nat.le_refl _) (.cells #[.int .i64 0, .int .i64 0] 73)
        have HI7 := Lib.hid (HI6.out.below HI6.out.call.size hb7)
        clear hl2 HI6 hW6 hb7 d0 d1 d2 d3
        generalize w6.alloc (.cells #[.int .i64 0, .int .i64 0] 73) = w7 at *
        go_wp2_with fail
        refine (HPL.out w7).mono ?_
        rintro e w8 ⟨rfl, hb8⟩
        have hI8 := HI7.out.below HI7.out.call.size hb8
        obtain ⟨w9, hrun9, hkn9, ho9⟩ := hI8.known.store (plKit w1 (w.heap.size + 4) (w.heap.size + 2)) Try.underlying119 hI8.keep HOK.out (.agg #[.int .i64 9223372036854775807, .int .i64 9223372036854775807])
        have hqb : q < w8.heap.size := (hI8.own.lt q rfl).2
        have hmb8 := hI8.known.lt
        have hown9 := owns_keep4 hI8.own fun g hg => ho9.1.block g (hI8.own.lt g hg).2 (fun e => by have := (hI8.own.lt g hg).1; injection e with e; omega)
        have hown10 := hown9.alloc (.cells #[.slice (some ⟨g', 0, none⟩) f.ts[f.k].args.length ac', .int .i64 0, .int .i64 0, .int .i64 0] 121)
        rw [← HN.out] at hown10
        have HKN := Lib.hid hkn9
        have HO9 := Lib.hid ho9
        have HI8 := Lib.hid hI8
        have HS9 := Lib.hid ho9.2
        have hz8 := hI8.size
        have hc8 := hI8.call.size
        obtain ⟨i1, hi1, hy0, hy1, hy2⟩ := info_parts infoVisit
        clear HI7 hb8 hI8 hkn9 ho9 hown9
        go_wp2_with (at_builtin; refine wpList_append_cells _ rfl (.tmp 92) (.tmp 95) _ rfl (w.heap.size + 4) 121 i1 (.agg #[.slice none 0 0, .int .i64 0, .int .i64 0, .int .i64 0]) 4 48 Try.underlying122 hi1 hy0 hy1 hy2 rfl (by decide) _ (n + 1) _ rfl hown10 (some ⟨w9.heap.size, 0, none⟩) 1 1 [.slice (some ⟨g', 0, none⟩) f.ts[f.k].args.length ac', .int .i64 0, .int .i64 0, .int .i64 0] rfl rfl (news4 w9 _ _ _ _ _) (ones4 _ _ _ _) (by unfold maxLen; omega) (by omega) (by have := HS9.out; simp; omega) ?_; intro v11 w11 hown11 hg11)
        have HOWN := Lib.hid hown11
        have HG11 := Lib.hid hg11
        clear hown11 hg11 hown10 hrun9
        go_wp2
        go_roundg (mu ⟨g', ac', f.ts[f.k].args, 0⟩ (f :: r) false)
        case measure => rw [← HMU.out]; exact mu_push f r hk g' ac'
        case rel =>
          have hs9 := HS9.out
          have hblk : ∀ g, g < w8.heap.size → g ≠ q → w11.heap[g]? = w9.heap[g]? := fun g hg hne => (HG11.out.block g (by simp; omega) (fun e => hne (Option.some.inj e))).trans (Below.heap_alloc _ _ _ (by omega))
          have hcall9 : Below w.heap.size w w9 := HI8.out.call.grown HO9.out.1 hc8 (fun k hk => by cases hk; omega)
          have hcall : Below w.heap.size w w11 := (hcall9.alloc (by omega) _).grown HG11.out (by simp; omega) (fun k hk => by cases hk; show w.heap.size ≤ q; omega)
          refine ⟨_, f :: r, _, false, HI8.out.push hk g' ac' HC2.out HARG.out H0.out (HKN.out.keep (hblk _ hmb8 (by omega))) ?_ (fun g hg hne => ?_) hcall (by have := HG11.out.size; simp at this; omega), rfl⟩
          · have := HOWN.out
            rw [HN.out] at this
            exact this
          · exact (hblk g (by omega) (by omega)).trans ((HO9.out.1.block g (by omega) (fun e => hne (Option.some.inj e))).trans (HI8.out.keep g hg hne))

end Go.Proofs.Ytmacbkcjeamaeaa
