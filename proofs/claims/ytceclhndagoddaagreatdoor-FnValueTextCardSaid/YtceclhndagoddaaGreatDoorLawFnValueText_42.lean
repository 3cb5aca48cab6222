/- Lemmas: RRec. -/
import Derived.Test.YtceclhndagoddaaGreatDoorLawFnValueText_41

namespace Go.Proofs.YtceclhndagoddaaGreatDoor
open Go Go.RowKit
set_option linter.unusedSimpArgs false
attribute [local go_sem] Oper.semAt_some
attribute [local go_sem ↓] Go.wp_at_zero Go.wp_at_succ

set_option maxHeartbeats 4000000 in
set_option maxRecDepth 100000 in
theorem readRecord_any (n M : Nat) (hM : M ≤ 1000) (H : ∀ m, m ≤ M → ValR n m) : RecR n M := by
  intro B w ps pa pr j s hv hs
  have hl1 := hv.lts
  have hl2 := hv.lta
  have hl3 := hv.ltr
  have hlb := hv.ls
  obtain ⟨hb0, z0, y0, x0, hs0⟩ := boxes3 w 27 4 27 #[.int .i64 0, .int .i64 0, .string ⟨#[]⟩, .slice none 0 0, .slice none 0 0] #[.bool false] #[.int .i64 3, .int .i64 0, .string ⟨#[]⟩, .slice none 0 0, .slice none 0 0]
  have HV0 := Lib.hid (hv.keep hb0)
  have HB0 := Lib.hid hb0
  have HZ0 := Lib.hid z0
  have HY0 := Lib.hid y0
  have HX0 := Lib.hid x0
  have hsz0 : (((w.alloc (.cells #[.int .i64 0, .int .i64 0, .string ⟨#[]⟩, .slice none 0 0, .slice none 0 0] 27)).alloc (.cells #[.bool false] 4)).alloc (.cells #[.int .i64 3, .int .i64 0, .string ⟨#[]⟩, .slice none 0 0, .slice none 0 0] 27)).heap.size = w.heap.size + 3 := by simp
  have HS0 := Lib.hid hsz0
  clear hb0 z0 y0 x0 hs0 hsz0
  refine (callsIn_wide (n := 7)).1 ?_
  refine callsIn_of_wp_marks Tryz.func43 rfl trivial ?_ rfl
  simp only [Tryz.ntmps43, List.size_toArray, List.length_cons, List.length_nil, Nat.reduceAdd, Nat.reduceSub, Array.replicate_succ, Array.replicate_zero, List.push_toArray, List.append_toArray, List.nil_append, List.cons_append]
  have hmf : ∀ (fn : Fn) (first cap : Array Value) (w : World), (Instr.makeFunc fn first cap).run Tryz.prog w = .ok (.func fn first cap) w := fun _ _ _ _ => rfl
  gi_wp2_with fail
  generalize (((w.alloc (.cells #[.int .i64 0, .int .i64 0, .string ⟨#[]⟩, .slice none 0 0, .slice none 0 0] 27)).alloc (.cells #[.bool false] 4)).alloc (.cells #[.int .i64 3, .int .i64 0, .string ⟨#[]⟩, .slice none 0 0, .slice none 0 0] 27)) = wa at *
  refine ⟨trivial, ?_⟩
  refine (callsIn_wide.2 (partsBefore_any pr 125 75 wa)).mono ?_
  rintro e w1 ⟨t1, t2, t3, rfl, rfl⟩
  obtain ⟨hb1, r1, r2, r3, hs1⟩ := boxes3 wa t1 t2 t3 #[.pointer (some ⟨pr, 0, none⟩)] #[.string ⟨#[125]⟩] #[.func (.func 75) #[.pointer (some ⟨pr, 0, none⟩)] #[]]
  have HV1 := Lib.hid (HV0.out.keep hb1)
  have HZ1 := Lib.hid (HZ0.out.below hb1 HZ0.out.lt)
  have HY1 := Lib.hid (HY0.out.below hb1 HY0.out.lt)
  have HX1 := Lib.hid (HX0.out.below hb1 HX0.out.lt)
  have HB1 := Lib.hid (HB0.out.trans (hb1.mono HB0.out.size))
  have HR1 := Lib.hid (And.intro r1 (And.intro r2 r3))
  have hsz1 : (((wa.alloc (.cells #[.pointer (some ⟨pr, 0, none⟩)] t1)).alloc (.cells #[.string ⟨#[125]⟩] t2)).alloc (.cells #[.func (.func 75) #[.pointer (some ⟨pr, 0, none⟩)] #[]] t3)).heap.size = w.heap.size + 6 := by have := HS0.out; simp; omega
  have HS1 := Lib.hid hsz1
  clear hb1 r1 r2 r3 hs1 hsz1 HB0 HZ0 HY0 HX0 HV0
  gi_wp2
  generalize (((wa.alloc (.cells #[.pointer (some ⟨pr, 0, none⟩)] t1)).alloc (.cells #[.string ⟨#[125]⟩] t2)).alloc (.cells #[.func (.func 75) #[.pointer (some ⟨pr, 0, none⟩)] #[]] t3)) = wb at *
  have hsz0 := HS0.out
  have hsz1 := HS1.out
  have hseq := iterField_seq n M H B wb ps pa pr j s HV1.out hs 125 (by decide) (by decide) wa.heap.size (wa.heap.size + 1) (wa.heap.size + 1 + 1) t1 t2 t3 HR1.out.1 HR1.out.2.1 HR1.out.2.2 (by omega) (by omega) (by omega)
    (fun i => i = w.heap.size ∨ i = w.heap.size + 1 ∨ i = w.heap.size + 1 + 1) (fun i hi => by rcases hi with rfl | rfl | rfl <;> (refine ⟨?_, ?_, ?_, ?_⟩ <;> omega)) ⟨by omega, by omega, by omega⟩
  refine rangeFunc_turnY (F := Fence.wide) (n := 7) (gf := 92) (lb := #[.pointer (some ⟨wa.heap.size, 0, none⟩), .pointer (some ⟨wa.heap.size + 1, 0, none⟩), .pointer (some ⟨wa.heap.size + 1 + 1, 0, none⟩)]) rfl (by decide) rfl trivial (enters_of Tryz.func92 (by kernel_rfl) rfl) (fun _ => rfl) (X := vrX pa pr) (fun i hi => by rcases hi with rfl | rfl <;> omega) (w0 := wb) (Below.refl _ _) hseq
    (RecI w pa pr (wb.heap.size + 2) M) (RecX w pa pr) ?hI ?hIx ?h0 ?round ?done ?stop
  case hI => exact fun pre A C h hsb => h.same hsb (by omega) (by omega)
  case hIx => exact fun pre A C h hsb => h.same hsb (by omega)
  case h0 =>
    intro W hW hWs
    obtain ⟨xs, vs, lo, hi, hG⟩ := VGather.start W (wb.heap.size + 2) []
    exact ⟨HZ1.out.below hW HZ1.out.lt, HY1.out.below hW HY1.out.lt, ⟨none, 0, none, 0, xs, vs, lo, hi, HX1.out.below hW HX1.out.lt, (by decide), fun i h => absurd h (by simp [Va.labels, labs, reads]), Nat.zero_le _, World.ownsRow_nil _ _ _ 1, hG, fun gl h => by cases h⟩, fun q hq => (by cases hq), Nat.zero_le _, (Turn.of_below HB1.out).below hW (by omega)⟩
  case round =>
    rintro pre x A B1 hI hT hPx hsA
    obtain ⟨LL, lc1, A', ac, xs, vs, lo, hi, h3, h4⟩ := hI.node
    have HH3 := Lib.hid (turn_stays hT h3 (by omega) (by omega))
    have HH4 := Lib.hid (h4.keep hT.size (fun g hg hl => hT.block g hl (fun e => by have := (h4.row.lt g hg).1; rcases e with e | e <;> omega)) (fun g hg hl => hT.block g hl (fun e => by have := (h4.parts.own.lt g hg).1; rcases e with e | e <;> omega))
      (fun i hi' b hb' hl => hT.block b hl (fun e => by have := (h4.parts.low i hi').1; have := hb'.1; rcases e with e | e <;> omega)))
    have HLL : Hid (∀ g, LL = some ⟨g, 0, none⟩ → g < A.heap.size) := Lib.hid fun g hg => (h4.row.lt g (by rw [hg]; rfl)).2
    have HAL : Hid (∀ g, A' = some ⟨g, 0, none⟩ → g < A.heap.size) := Lib.hid fun g hg => (h4.parts.own.lt g (by rw [hg]; rfl)).2
    have HPL : Hid (∀ i, i < (vals pre).length → hi i ≤ A.heap.size) := Lib.hid fun i hi' => (h4.parts.low i hi').2
    clear h3 h4
    have hIB := hI.turn hT hl2 hl3 (by omega)
    have hBs := hT.size
    have HI := Lib.hid hIB
    have HPX := Lib.hid hPx
    have HZS := Lib.hid (And.intro hsz0 hsz1)
    clear hIB hPx hsz0 hsz1 hseq hI hT
    obtain ⟨l0, k0, n0, nm, L, nl, lc, A0, na, ac0, ok, bb⟩ := x
    simp only [PV.enc]
    gi_wp2
    have hb2 := (Below.refl B1.heap.size B1).alloc (Nat.le_refl _) (.cells #[.string l0, .int .i64 k0, .int .i64 n0, .string nm, .slice L nl lc, .slice A0 na ac0] 106)
    have hq2 := Whole1.new B1 106 #[.string l0, .int .i64 k0, .int .i64 n0, .string nm, .slice L nl lc, .slice A0 na ac0]
    have hz2 : (B1.alloc (.cells #[.string l0, .int .i64 k0, .int .i64 n0, .string nm, .slice L nl lc, .slice A0 na ac0] 106)).heap.size = B1.heap.size + 1 := by simp
    have HI2 := Lib.hid (HI.out.more hb2)
    have hH3 := HH3.out.below hb2 HH3.out.lt
    have hH4 := HH4.out.keep hb2.size (fun g _ hl => hb2.block g hl) (fun g _ hl => hb2.block g hl) (fun _ _ b _ hl => hb2.block b hl)
    generalize B1.alloc (.cells #[.string l0, .int .i64 k0, .int .i64 n0, .string nm, .slice L nl lc, .slice A0 na ac0] 106) = B2 at *
    have hz0 := HZS.out.1
    have hz1 := HZS.out.2
    refine ⟨⟨hb2.block _ (by omega), hb2.block _ (by omega), BelowX.of (hb2.mono (by omega))⟩, fun B3 hsb => ?_⟩
    have HI3 := Lib.hid (HI2.out.same hsb (by omega) (by omega))
    have HQ3 : Hid (Whole1 B3 B1.heap.size 106 #[.string l0, .int .i64 k0, .int .i64 n0, .string nm, .slice L nl lc, .slice A0 na ac0]) := Lib.hid ((hsb.block (i := B1.heap.size) (by omega) (by omega)).trans hq2)
    have hB3 : B1.heap.size < B3.heap.size := by have := hsb.2; omega
    have HN3 : Hid (Whole1 B3 (w.heap.size + 1 + 1) 27 #[.int .i64 3, .int .i64 0, .string ⟨#[]⟩, .slice LL (labs pre).length lc1, .slice A' (vals pre).length ac]) := Lib.hid ((hsb.block hH3.lt (by omega)).trans hH3)
    have HO3 := Lib.hid (hH4.grown hsb.1 (by omega))
    have HSB := Lib.hid (And.intro hb2 hsb)
    clear hH3 hH4 HH3 HH4
    clear HI2 hsb hb2 hq2 hz2 HI hz0 hz1
    cases ok with
    | false =>
      clear HPX
      have d0 : B3.cell? ⟨w.heap.size, 0, none⟩ = some (.int .i64 0) := HI3.out.res.cell 0
      have f0 : B3.frozen? ⟨w.heap.size, 0, none⟩ = false := HI3.out.res.free 0
      have d1 : B3.cell? ⟨w.heap.size, 1, none⟩ = some (.int .i64 0) := HI3.out.res.cell 1
      have f1 : B3.frozen? ⟨w.heap.size, 1, none⟩ = false := HI3.out.res.free 1
      have d2 : B3.cell? ⟨w.heap.size, 2, none⟩ = some (.string ⟨#[]⟩) := HI3.out.res.cell 2
      have f2 : B3.frozen? ⟨w.heap.size, 2, none⟩ = false := HI3.out.res.free 2
      have d3 : B3.cell? ⟨w.heap.size, 3, none⟩ = some (.slice none 0 0) := HI3.out.res.cell 3
      have f3 : B3.frozen? ⟨w.heap.size, 3, none⟩ = false := HI3.out.res.free 3
      have d4 : B3.cell? ⟨w.heap.size, 4, none⟩ = some (.slice none 0 0) := HI3.out.res.cell 4
      have f4 : B3.frozen? ⟨w.heap.size, 4, none⟩ = false := HI3.out.res.free 4
      have e0 : B3.cell? ⟨w.heap.size + 1, 0, none⟩ = some (.bool false) := HI3.out.flag.cell 0
      have g0 : B3.frozen? ⟨w.heap.size + 1, 0, none⟩ = false := HI3.out.flag.free 0
      gi_wp2
      obtain ⟨o1, o2, o3, o4, o5⟩ := box_outs HI3.out.res rfl HI3.out.flag HI3.out.turned (.int .i64 0) (.int .i64 0) (.string ⟨#[]⟩) (.slice none 0 0) (.slice none 0 0) (.bool false)
      have hz0 := HZS.out.1
      have hz1 := HZS.out.2
      exact ⟨⟨o4 _ (by omega) (by omega), o4 _ (by omega) (by omega), outs_belowX o5 o4 (Or.inl rfl) (Or.inr (Or.inl rfl))⟩, ⟨o1, o2, ⟨_, List.mem_append_right _ (List.mem_singleton.2 rfl), rfl⟩, o3⟩⟩
    | true =>
      gi_wp2
      obtain ⟨u, hbu, hlu, hsu, hnd, hO⟩ := HPX.out rfl
      simp only at hbu hnd
      subst hbu
      have HND := Lib.hid hnd
      have HU := Lib.hid hO.owned
      have HLU : Hid (u.1 = l0 ∧ l0.size ≤ 1048576) := Lib.hid ⟨hlu, hsu⟩
      clear hlu hsu hnd hO HPX
      refine region_round (by kernel_rfl) (by kernel_rfl) (fun h => by obtain ⟨_, _, h⟩ := h; exact h) ?_
      have hbd : Below B3.heap.size B3 B3.drew := (Below.refl B3.heap.size B3).drew
      have hz0 := HZS.out.1
      have hz1 := HZS.out.2
      have hlen : (vals pre).length ≤ 1000 := by have h1 := HI3.out.nodes; have h2 := len_fields (reads pre); have h3 : (vals pre).length = (reads pre).length := List.length_map ..; rw [h3]; exact Nat.le_trans h2 (Nat.le_trans h1 hM)
      have hlen2 : (labs pre).length ≤ 1000 := by have h3 : (labs pre).length = (reads pre).length := List.length_map ..; have h4 : (vals pre).length = (reads pre).length := List.length_map ..; omega
      generalize hls : labs pre = ls at HN3 HO3 hlen2
      generalize hts : vals pre = ts at HN3 HO3 HPL hlen
      have HLS := Lib.hid (And.intro hls hts)
      clear hls hts
      have HM : Hid (MidF (wb.heap.size + 2) A.heap.size B1.heap.size B3 106 #[.string l0, .int .i64 k0, .int .i64 n0, .string nm, .slice L nl lc, .slice A0 na ac0] LL lc1 A' ac (.mk 3 0 ⟨#[]⟩ ls ts) xs vs lo hi (.agg #[.int .i64 k0, .int .i64 n0, .string nm, .slice L nl lc, .slice A0 na ac0]) u.2 B3.drew) := Lib.hid (by
        have hb2 := HSB.out.1
        have hsb := HSB.out.2
        have hs12 := hb2.size
        refine MidF.below (W := B3) ⟨rfl, rfl, rfl, Nat.le_refl _, hB3, fun _ _ => rfl, HQ3.out, HO3.out, ?_, HPL.out, fun g e => Or.inl (HLL.out g e), fun g e => Or.inl (HAL.out g e), hsA, hBs⟩ hbd
        exact HU.out.keep fun q hq _ => by
          have h1 := hq.1
          have h2 := hq.2
          exact (hsb.block (by omega) (by omega)).trans (hb2.block q h2))
      have HN := Lib.hid HN3.out
      have HF := Lib.hid (And.intro hsA hBs)
      have FIN : Hid (∀ (W C : World) (g1 cap1 g2 cap2 : Nat), (W.os = B3.os ∧ W.tape = B3.tape ∧ W.output = B3.output ∧ B3.heap.size ≤ W.heap.size ∧ wb.heap.size + 2 ≤ W.heap.size) → (∀ q, q < wb.heap.size + 2 → W.heap[q]? = B3.heap[q]?) → (∃ xs2 vs2 lo2 hi2, OwnVAt W (wb.heap.size + 2) (some ⟨g1, 0, none⟩) cap1 (some ⟨g2, 0, none⟩) cap2 (.mk 3 0 ⟨#[]⟩ (ls ++ [l0]) (ts ++ [u.2])) xs2 vs2 lo2 hi2) → Whole1 C (w.heap.size + 1 + 1) 27 #[.int .i64 3, .int .i64 0, .string ⟨#[]⟩, .slice (some ⟨g1, 0, none⟩) (ls.length + 1) cap1, .slice (some ⟨g2, 0, none⟩) (ts.length + 1) cap2] → (C.os = W.os ∧ C.tape = W.tape ∧ C.output = W.output ∧ C.heap.size = W.heap.size) → (∀ q, q ≠ w.heap.size + 1 + 1 → C.heap[q]? = W.heap[q]?) → KeptY (fun i => i = w.heap.size ∨ i = w.heap.size + 1 ∨ i = w.heap.size + 1 + 1) wb.heap.size wb.heap.size (wb.heap.size + 1) B3 C ∧ RecI w pa pr (wb.heap.size + 2) M (pre ++ [(⟨l0, k0, n0, nm, L, nl, lc, A0, na, ac0, true, some u⟩ : PV (ByteArray × Va))]) C) := Lib.hid (by
        intro W C g1 cap1 g2 cap2 hw hlow hex hbx hc hk
        obtain ⟨w1, w2, w3, w4, w5⟩ := hw
        obtain ⟨c1, c2, c3, c4⟩ := hc
        obtain ⟨xs2, vs2, lo2, hi2, ho⟩ := hex
        have low : ∀ q, q < wb.heap.size + 2 → q ≠ w.heap.size + 1 + 1 → C.heap[q]? = B3.heap[q]? := fun q hq h1 => (hk q h1).trans (hlow q hq)
        have hbel : Below w.heap.size B3 C := ⟨c1.trans w1, c2.trans w2, c3.trans w3, by omega, fun q hq => low q (by omega) (by omega)⟩
        refine ⟨⟨low _ (by omega) (by omega), low _ (by omega) (by omega), ⟨hbel.os, hbel.tape, hbel.output, hbel.size, fun q hq hy => low q (by omega) (fun e => hy (Or.inr (Or.inr e)))⟩⟩, ?_⟩
        have eL : labs (pre ++ [(⟨l0, k0, n0, nm, L, nl, lc, A0, na, ac0, true, some u⟩ : PV (ByteArray × Va))]) = ls ++ [l0] := by rw [← HLS.out.1, ← HLU.out.1]; show (reads _).map _ = _; rw [reads_snoc pre _ u rfl, List.map_append]; rfl
        have eV : vals (pre ++ [(⟨l0, k0, n0, nm, L, nl, lc, A0, na, ac0, true, some u⟩ : PV (ByteArray × Va))]) = ts ++ [u.2] := by rw [← HLS.out.2]; show (reads _).map _ = _; rw [reads_snoc pre _ u rfl, List.map_append]; rfl
        have hO := ho.keep (w' := C) (by omega) (fun q e _ => hk q (by have := (ho.row.lt q e).1; omega)) (fun q e _ => hk q (by have := (ho.parts.own.lt q e).1; omega)) (fun i hi' q hq _ => hk q (by have := (ho.parts.low i hi').1; have := hq.1; omega))
        refine ⟨(low _ (by omega) (by omega)).trans HI3.out.res, (low _ (by omega) (by omega)).trans HI3.out.flag, ?_, ok_snoc HI3.out.ok rfl, HND.out, HI3.out.turned.below hbel (Nat.le_refl _)⟩
        rw [eL, eV]
        exact ⟨some ⟨g1, 0, none⟩, cap1, some ⟨g2, 0, none⟩, cap2, xs2, vs2, lo2, hi2, (by rw [List.length_append, List.length_append]; exact hbx), hO⟩)
      refine any_of_until (S := (FieldS (w.heap.size + 1 + 1) B1.heap.size (.slice LL ls.length lc1) (.slice A' ts.length ac) (.string l0) (.int .i64 k0) (.int .i64 n0) (.string nm) (.slice L nl lc) (.slice A0 na ac0))) (ks := [4, 5, 10, 11]) _ _ _ _ ?_
      clear HN3 HQ3 HO3 hbd hB3 HU HSB HAL HPL HI3 HND hsA hBs
      generalize B3.drew = B4 at *
      have HS := Lib.hid (HM.out.S HN.out (show w.heap.size + 1 + 1 < wb.heap.size + 2 by have := HZS.out.1; have := HZS.out.2; omega))
      have HLE := Lib.hid (And.intro hlen hlen2)
      clear hz0 hz1 hlen hlen2
      refine take_any (i := 0) (v := .pointer (some ⟨w.heap.size + 1 + 1, 3, none⟩)) rfl (by kernel_rfl) (by kernel_rfl) (by kernel_rfl) (by kernel_rfl) (fun _ _ _ h => h) (Or.inr HS.out) ⟨by rfl, fun x => by go_simp⟩ ?_
      (try simp only [Act.put, List.setIfInBounds_toArray, List.set_cons_zero, List.set_cons_succ])
      refine take_any (i := 2) (v := .pointer (some ⟨B1.heap.size, 0, none⟩)) rfl (by kernel_rfl) (by kernel_rfl) (by kernel_rfl) (by kernel_rfl) (fun _ _ _ h => h) (Or.inr HS.out) ⟨by rfl, fun x => by go_simp⟩ ?_
      (try simp only [Act.put, List.setIfInBounds_toArray, List.set_cons_zero, List.set_cons_succ])
      refine take_any (i := 6) (v := .pointer (some ⟨w.heap.size + 1 + 1, 4, none⟩)) rfl (by kernel_rfl) (by kernel_rfl) (by kernel_rfl) (by kernel_rfl) (fun _ _ _ h => h) (Or.inr HS.out) ⟨by rfl, fun x => by go_simp⟩ ?_
      (try simp only [Act.put, List.setIfInBounds_toArray, List.set_cons_zero, List.set_cons_succ])
      refine take_any (i := 8) (v := .pointer (some ⟨B1.heap.size, 1, none⟩)) rfl (by kernel_rfl) (by kernel_rfl) (by kernel_rfl) (by kernel_rfl) (fun _ _ _ h => h) (Or.inr HS.out) ⟨by rfl, fun x => by go_simp⟩ ?_
      (try simp only [Act.put, List.setIfInBounds_toArray, List.set_cons_zero, List.set_cons_succ])
      refine take_held (i := 1) 5 (v := .slice LL ls.length lc1) rfl (by kernel_rfl) (by kernel_rfl) (by kernel_rfl) (by kernel_rfl) (by kernel_rfl) (by kernel_rfl) (by kernel_rfl) (fun _ _ _ h => h) HS.out ⟨by rfl, fun x hSw => by obtain ⟨_, _, _, _, _, _, _, _⟩ := hSw; go_simp⟩ ?_
      (try simp only [Act.put, List.setIfInBounds_toArray, List.set_cons_zero, List.set_cons_succ])
      refine take_held (i := 3) 4 (v := .string l0) rfl (by kernel_rfl) (by kernel_rfl) (by kernel_rfl) (by kernel_rfl) (by kernel_rfl) (by kernel_rfl) (by kernel_rfl) (fun _ _ _ h => h) HS.out ⟨by rfl, fun x hSw => by obtain ⟨_, _, _, _, _, _, _, _⟩ := hSw; go_simp⟩ ?_
      (try simp only [Act.put, List.setIfInBounds_toArray, List.set_cons_zero, List.set_cons_succ])
      refine take_held (i := 7) 11 (v := .slice A' ts.length ac) rfl (by kernel_rfl) (by kernel_rfl) (by kernel_rfl) (by kernel_rfl) (by kernel_rfl) (by kernel_rfl) (by kernel_rfl) (fun _ _ _ h => h) HS.out ⟨by rfl, fun x hSw => by obtain ⟨_, _, _, _, _, _, _, _⟩ := hSw; go_simp⟩ ?_
      (try simp only [Act.put, List.setIfInBounds_toArray, List.set_cons_zero, List.set_cons_succ])
      refine take_held (i := 9) 10 (v := .agg #[.int .i64 k0, .int .i64 n0, .string nm, .slice L nl lc, .slice A0 na ac0]) rfl (by kernel_rfl) (by kernel_rfl) (by kernel_rfl) (by kernel_rfl) (by kernel_rfl) (by kernel_rfl) (by kernel_rfl) (fun _ _ _ h => h) HS.out ⟨by rfl, fun x hSw => by obtain ⟨_, _, _, _, _, _, _, _⟩ := hSw; go_simp⟩ ?_
      (try simp only [Act.put, List.setIfInBounds_toArray, List.set_cons_zero, List.set_cons_succ])
      clear HS
      refine turns (rs := [4, 10]) (by kernel_rfl) (by rfl) ?_
      refine Turns.cons rfl (fun K hK => ?_) ?_
      · go_simp
        have hb5 := (Below.refl B4.heap.size B4).alloc (Nat.le_refl _) (.cells #[.string l0] 9)
        have HM5 := Lib.hid (HM.out.below hb5)
        have HZ4_5 := Lib.hid (Whole1.new B4 9 #[.string l0])
        have HG5 := Lib.hid (show B4.heap.size ≤ (B4.alloc (.cells #[.string l0] 9)).heap.size from hb5.size)
        clear hb5
        generalize B4.alloc (.cells #[.string l0] 9) = B5 at *
        refine hK.out _ _ (Or.inr (HM5.out.S HN.out (show w.heap.size + 1 + 1 < wb.heap.size + 2 by have := HZS.out.1; have := HZS.out.2; omega))) ?_
        clear hK K
        (try simp only [Act.put, List.setIfInBounds_toArray, List.set_cons_zero, List.set_cons_succ])
        refine turns (rs := [5, 10]) (by kernel_rfl) (by rfl) ?_
        refine Turns.cons (o := { dst := some 22, op := .call { callee := .builtin .append, args := #[.tmp 18, .tmp 21], argTypes := #[24, 24] }, type := 24, pos := "l06_valuetext.go:109", after := #[{ on := 1, ground := .data }, { on := 4, ground := .data }], guard := none }) rfl (fun K hK => ?_) ?_
        · have hsz := HM5.out.size
          have hsf := HF.out
          have hll := HLE.out.2
          obtain ⟨i0, hi0, hx0, hx1, hx2⟩ := info_parts infoString
          refine step_append_lies B5 (by rfl) (.tmp 18) (.tmp 21) _ (by rfl) (wb.heap.size + 2) 9 i0 (.string ⟨#[]⟩) 1 16 Tryz.underlying24 hi0 hx0 hx1 hx2 rfl (by decide) _ ls.length (strVals ls) (by rfl) HM5.out.own.row ⟨B4.heap.size, 0, none⟩ 1 1 [.string l0] (by rfl) rfl (World.news_of_block (cs := #[.string l0]) HZ4_5.out) (fun u hu => by simp at hu; subst hu; rfl) (by omega) (by unfold maxLen; omega) (by omega) (by omega) B5.heap.size rfl (fun g1 cap1 B6 hown hgr hat hgl => ?_)
          have HM6 := Lib.hid (HM5.out.label l0 (Nat.le_trans HLU.out.2 (by unfold maxLen; omega)) hown hgr hat)
          have HG6 := Lib.hid hgr.size
          clear hown hgr hat hgl hsz hsf hll
          refine hK.out _ _ (Or.inr ⟨(HM6.out.node HN.out (show w.heap.size + 1 + 1 < wb.heap.size + 2 by have := HZS.out.1; have := HZS.out.2; omega)).cell 3, (HM6.out.node HN.out (show w.heap.size + 1 + 1 < wb.heap.size + 2 by have := HZS.out.1; have := HZS.out.2; omega)).cell 4, HM6.out.box.cell 0, HM6.out.box.cell 1, HM6.out.box.cell 2, HM6.out.box.cell 3, HM6.out.box.cell 4, HM6.out.box.cell 5⟩) ?_
          clear hK K
          (try simp only [Act.put, List.setIfInBounds_toArray, List.set_cons_zero, List.set_cons_succ])
          refine take_any (i := 12) (v := .pointer (some ⟨w.heap.size + 1 + 1, 3, none⟩)) rfl (by kernel_rfl) (by kernel_rfl) (by kernel_rfl) (by kernel_rfl) (fun _ _ _ h => h) (Or.inr (show (FieldS (w.heap.size + 1 + 1) B1.heap.size (.slice LL ls.length lc1) (.slice A' ts.length ac) (.string l0) (.int .i64 k0) (.int .i64 n0) (.string nm) (.slice L nl lc) (.slice A0 na ac0)) B6 from ⟨(HM6.out.node HN.out (show w.heap.size + 1 + 1 < wb.heap.size + 2 by have := HZS.out.1; have := HZS.out.2; omega)).cell 3, (HM6.out.node HN.out (show w.heap.size + 1 + 1 < wb.heap.size + 2 by have := HZS.out.1; have := HZS.out.2; omega)).cell 4, HM6.out.box.cell 0, HM6.out.box.cell 1, HM6.out.box.cell 2, HM6.out.box.cell 3, HM6.out.box.cell 4, HM6.out.box.cell 5⟩)) ⟨by rfl, fun x => by go_simp⟩ ?_
          (try simp only [Act.put, List.setIfInBounds_toArray, List.set_cons_zero, List.set_cons_succ])
          refine turns (rs := [10]) (by kernel_rfl) (by rfl) ?_
          refine Turns.cons rfl (fun K hK => ?_) Turns.nil
          go_simp
          have hb5 := (Below.refl B6.heap.size B6).alloc (Nat.le_refl _) (.cells #[.int .i64 k0, .int .i64 n0, .string nm, .slice L nl lc, .slice A0 na ac0] 27)
          have HM7 := Lib.hid (HM6.out.below hb5)
          have HZ10_7 := Lib.hid (Whole1.new B6 27 #[.int .i64 k0, .int .i64 n0, .string nm, .slice L nl lc, .slice A0 na ac0])
          have HG7 := Lib.hid (show B6.heap.size ≤ (B6.alloc (.cells #[.int .i64 k0, .int .i64 n0, .string nm, .slice L nl lc, .slice A0 na ac0] 27)).heap.size from hb5.size)
          clear hb5
          generalize B6.alloc (.cells #[.int .i64 k0, .int .i64 n0, .string nm, .slice L nl lc, .slice A0 na ac0] 27) = B7 at *
          refine hK.out _ _ (Or.inr (HM7.out.S HN.out (show w.heap.size + 1 + 1 < wb.heap.size + 2 by have := HZS.out.1; have := HZS.out.2; omega))) ?_
          clear hK K
          (try simp only [Act.put, List.setIfInBounds_toArray, List.set_cons_zero, List.set_cons_succ])
          refine turns (rs := [11]) (by kernel_rfl) (by rfl) ?_
          refine Turns.cons (o := { dst := some 28, op := .call { callee := .builtin .append, args := #[.tmp 24, .tmp 27], argTypes := #[25, 25] }, type := 25, pos := "l06_valuetext.go:109", after := #[{ on := 7, ground := .data }, { on := 10, ground := .data }, { on := 5, ground := .chain }], guard := none }) rfl (fun K hK => ?_) Turns.nil
          have hsz := HM7.out.size
          have hsf := HF.out
          have hll := HLE.out.1
          obtain ⟨i1, hi1, hy0, hy1, hy2⟩ := info_parts infoValue
          refine step_append_lies B7 (by rfl) (.tmp 24) (.tmp 27) _ (by rfl) (wb.heap.size + 2) 27 i1 (.agg #[.int .i64 0, .int .i64 0, .string ⟨#[]⟩, .slice none 0 0, .slice none 0 0]) 5 80 Tryz.underlying25 hi1 hy0 hy1 hy2 rfl (by decide) _ ts.length xs (by rfl) HM7.out.own.parts.own ⟨B6.heap.size, 0, none⟩ 1 1 [.int .i64 k0, .int .i64 n0, .string nm, .slice L nl lc, .slice A0 na ac0] (by rfl) rfl (World.news_of_block (cs := #[.int .i64 k0, .int .i64 n0, .string nm, .slice L nl lc, .slice A0 na ac0]) HZ10_7.out) (fun u hu => by simp at hu; rcases hu with rfl | rfl | rfl | rfl | rfl <;> rfl) (by omega) (by unfold maxLen; omega) (by omega) (by omega) B7.heap.size rfl (fun g2 cap2 B8 hown hgr hat hgl => ?_)
          have HE := Lib.hid (HM7.out.arg (show ts.length + 1 ≤ maxLen by unfold maxLen; omega) hown hgr hat)
          clear hown hgr hat hgl hsz hsf hll
          refine hK.out _ _ (Or.inl (up_of (by kernel_rfl))) ?_
          clear hK K
          (try simp only [Act.put, List.setIfInBounds_toArray, List.set_cons_zero, List.set_cons_succ])
          have HC : Hid (Whole1 B8 (w.heap.size + 1 + 1) 27 #[.int .i64 3, .int .i64 0, .string ⟨#[]⟩, .slice LL ls.length lc1, .slice A' ts.length ac]) := Lib.hid ((HE.out.2.1 (w.heap.size + 1 + 1) (show w.heap.size + 1 + 1 < wb.heap.size + 2 by have := HZS.out.1; have := HZS.out.2; omega)).trans HN.out)
          refine turns (rs := [13]) (by kernel_rfl) (by rfl) ?_
          refine Turns.cons rfl (fun K hK => ?_) Turns.nil
          have n3 : B8.cell? ⟨w.heap.size + 1 + 1, 3, none⟩ = some (.slice LL ls.length lc1) := HC.out.cell 3
          have r3 : B8.frozen? ⟨w.heap.size + 1 + 1, 3, none⟩ = false := HC.out.free 3
          have HC2 := Lib.hid (HC.out.set 3 (.slice (some ⟨g1, 0, none⟩) (ls.length + 1) cap1))
          have HK2 : Hid (((B8.setCell ⟨w.heap.size + 1 + 1, 3, none⟩ (.slice (some ⟨g1, 0, none⟩) (ls.length + 1) cap1)).os = B8.os ∧ (B8.setCell ⟨w.heap.size + 1 + 1, 3, none⟩ (.slice (some ⟨g1, 0, none⟩) (ls.length + 1) cap1)).tape = B8.tape ∧ (B8.setCell ⟨w.heap.size + 1 + 1, 3, none⟩ (.slice (some ⟨g1, 0, none⟩) (ls.length + 1) cap1)).output = B8.output ∧ (B8.setCell ⟨w.heap.size + 1 + 1, 3, none⟩ (.slice (some ⟨g1, 0, none⟩) (ls.length + 1) cap1)).heap.size = B8.heap.size) ∧ ∀ q, q ≠ w.heap.size + 1 + 1 → (B8.setCell ⟨w.heap.size + 1 + 1, 3, none⟩ (.slice (some ⟨g1, 0, none⟩) (ls.length + 1) cap1)).heap[q]? = B8.heap[q]?) := Lib.hid ⟨⟨rfl, rfl, rfl, by simp [World.setCell]⟩, fun q hq => Below.heap_setCell _ _ _ _ hq⟩
          go_simp
          clear n3 r3
          generalize B8.setCell ⟨w.heap.size + 1 + 1, 3, none⟩ (.slice (some ⟨g1, 0, none⟩) (ls.length + 1) cap1) = C1 at *
          refine hK.out _ _ (Or.inl (up_of (by kernel_rfl))) ?_
          clear hK K
          (try simp only [Act.put, List.setIfInBounds_toArray, List.set_cons_zero, List.set_cons_succ])
          refine take_any (i := 14) (v := .pointer (some ⟨w.heap.size + 1 + 1, 4, none⟩)) rfl (by kernel_rfl) (by kernel_rfl) (by kernel_rfl) (by kernel_rfl) (fun _ _ _ h => h) (Or.inl (up_of (by kernel_rfl))) ⟨by rfl, fun x => by go_simp⟩ ?_
          (try simp only [Act.put, List.setIfInBounds_toArray, List.set_cons_zero, List.set_cons_succ])
          refine turns (rs := [15]) (by kernel_rfl) (by rfl) ?_
          refine Turns.cons rfl (fun K hK => ?_) Turns.nil
          have n4 : C1.cell? ⟨w.heap.size + 1 + 1, 4, none⟩ = some (.slice A' ts.length ac) := HC2.out.cell 4
          have r4 : C1.frozen? ⟨w.heap.size + 1 + 1, 4, none⟩ = false := HC2.out.free 4
          have HC3 := Lib.hid (HC2.out.set 4 (.slice (some ⟨g2, 0, none⟩) (ts.length + 1) cap2))
          have HK3 : Hid (((C1.setCell ⟨w.heap.size + 1 + 1, 4, none⟩ (.slice (some ⟨g2, 0, none⟩) (ts.length + 1) cap2)).os = C1.os ∧ (C1.setCell ⟨w.heap.size + 1 + 1, 4, none⟩ (.slice (some ⟨g2, 0, none⟩) (ts.length + 1) cap2)).tape = C1.tape ∧ (C1.setCell ⟨w.heap.size + 1 + 1, 4, none⟩ (.slice (some ⟨g2, 0, none⟩) (ts.length + 1) cap2)).output = C1.output ∧ (C1.setCell ⟨w.heap.size + 1 + 1, 4, none⟩ (.slice (some ⟨g2, 0, none⟩) (ts.length + 1) cap2)).heap.size = C1.heap.size) ∧ ∀ q, q ≠ w.heap.size + 1 + 1 → (C1.setCell ⟨w.heap.size + 1 + 1, 4, none⟩ (.slice (some ⟨g2, 0, none⟩) (ts.length + 1) cap2)).heap[q]? = C1.heap[q]?) := Lib.hid ⟨⟨rfl, rfl, rfl, by simp [World.setCell]⟩, fun q hq => Below.heap_setCell _ _ _ _ hq⟩
          go_simp
          clear n4 r4
          generalize C1.setCell ⟨w.heap.size + 1 + 1, 4, none⟩ (.slice (some ⟨g2, 0, none⟩) (ts.length + 1) cap2) = C2 at *
          refine hK.out _ _ (Or.inl (up_of (by kernel_rfl))) ?_
          clear hK K
          (try simp only [Act.put, List.setIfInBounds_toArray, List.set_cons_zero, List.set_cons_succ])
          refine until_done (by kernel_rfl) ?_
          exact FIN.out B8 C2 g1 cap1 g2 cap2 HE.out.1 HE.out.2.1 HE.out.2.2 HC3.out ⟨HK3.out.1.1.trans HK2.out.1.1, HK3.out.1.2.1.trans HK2.out.1.2.1, HK3.out.1.2.2.1.trans HK2.out.1.2.2.1, HK3.out.1.2.2.2.trans HK2.out.1.2.2.2⟩ (fun q hq => (HK3.out.2 q hq).trans (HK2.out.2 q hq))
        refine Turns.cons rfl (fun K hK => ?_) Turns.nil
        go_simp
        have hb5 := (Below.refl B5.heap.size B5).alloc (Nat.le_refl _) (.cells #[.int .i64 k0, .int .i64 n0, .string nm, .slice L nl lc, .slice A0 na ac0] 27)
        have HM6 := Lib.hid (HM5.out.below hb5)
        have HZ10_6 := Lib.hid (Whole1.new B5 27 #[.int .i64 k0, .int .i64 n0, .string nm, .slice L nl lc, .slice A0 na ac0])
        have HZ4_6 := Lib.hid (HZ4_5.out.below hb5 HZ4_5.out.lt)
        have HG6 := Lib.hid (show B5.heap.size ≤ (B5.alloc (.cells #[.int .i64 k0, .int .i64 n0, .string nm, .slice L nl lc, .slice A0 na ac0] 27)).heap.size from hb5.size)
        clear hb5
        generalize B5.alloc (.cells #[.int .i64 k0, .int .i64 n0, .string nm, .slice L nl lc, .slice A0 na ac0] 27) = B6 at *
        refine hK.out _ _ (Or.inr (HM6.out.S HN.out (show w.heap.size + 1 + 1 < wb.heap.size + 2 by have := HZS.out.1; have := HZS.out.2; omega))) ?_
        clear hK K
        (try simp only [Act.put, List.setIfInBounds_toArray, List.set_cons_zero, List.set_cons_succ])
        refine turns (rs := [5]) (by kernel_rfl) (by rfl) ?_
        refine Turns.cons (o := { dst := some 22, op := .call { callee := .builtin .append, args := #[.tmp 18, .tmp 21], argTypes := #[24, 24] }, type := 24, pos := "l06_valuetext.go:109", after := #[{ on := 1, ground := .data }, { on := 4, ground := .data }], guard := none }) rfl (fun K hK => ?_) Turns.nil
        have hsz := HM6.out.size
        have hsf := HF.out
        have hll := HLE.out.2
        obtain ⟨i0, hi0, hx0, hx1, hx2⟩ := info_parts infoString
        refine step_append_lies B6 (by rfl) (.tmp 18) (.tmp 21) _ (by rfl) (wb.heap.size + 2) 9 i0 (.string ⟨#[]⟩) 1 16 Tryz.underlying24 hi0 hx0 hx1 hx2 rfl (by decide) _ ls.length (strVals ls) (by rfl) HM6.out.own.row ⟨B4.heap.size, 0, none⟩ 1 1 [.string l0] (by rfl) rfl (World.news_of_block (cs := #[.string l0]) HZ4_6.out) (fun u hu => by simp at hu; subst hu; rfl) (by omega) (by unfold maxLen; omega) (by omega) (by omega) B6.heap.size rfl (fun g1 cap1 B7 hown hgr hat hgl => ?_)
        have HM7 := Lib.hid (HM6.out.label l0 (Nat.le_trans HLU.out.2 (by unfold maxLen; omega)) hown hgr hat)
        have HZ10_7 := Lib.hid ((hgr.block _ HZ10_6.out.lt (fun e => by have h9 := HLL.out _ (own_addr HM6.out.own.row _ e.symm); have := HM.out.size; have := HG5.out; have := HG6.out; omega)).trans HZ10_6.out)
        have HG7 := Lib.hid hgr.size
        clear hown hgr hat hgl hsz hsf hll
        refine hK.out _ _ (Or.inr ⟨(HM7.out.node HN.out (show w.heap.size + 1 + 1 < wb.heap.size + 2 by have := HZS.out.1; have := HZS.out.2; omega)).cell 3, (HM7.out.node HN.out (show w.heap.size + 1 + 1 < wb.heap.size + 2 by have := HZS.out.1; have := HZS.out.2; omega)).cell 4, HM7.out.box.cell 0, HM7.out.box.cell 1, HM7.out.box.cell 2, HM7.out.box.cell 3, HM7.out.box.cell 4, HM7.out.box.cell 5⟩) ?_
        clear hK K
        (try simp only [Act.put, List.setIfInBounds_toArray, List.set_cons_zero, List.set_cons_succ])
        refine take_any (i := 12) (v := .pointer (some ⟨w.heap.size + 1 + 1, 3, none⟩)) rfl (by kernel_rfl) (by kernel_rfl) (by kernel_rfl) (by kernel_rfl) (fun _ _ _ h => h) (Or.inr (show (FieldS (w.heap.size + 1 + 1) B1.heap.size (.slice LL ls.length lc1) (.slice A' ts.length ac) (.string l0) (.int .i64 k0) (.int .i64 n0) (.string nm) (.slice L nl lc) (.slice A0 na ac0)) B7 from ⟨(HM7.out.node HN.out (show w.heap.size + 1 + 1 < wb.heap.size + 2 by have := HZS.out.1; have := HZS.out.2; omega)).cell 3, (HM7.out.node HN.out (show w.heap.size + 1 + 1 < wb.heap.size + 2 by have := HZS.out.1; have := HZS.out.2; omega)).cell 4, HM7.out.box.cell 0, HM7.out.box.cell 1, HM7.out.box.cell 2, HM7.out.box.cell 3, HM7.out.box.cell 4, HM7.out.box.cell 5⟩)) ⟨by rfl, fun x => by go_simp⟩ ?_
        (try simp only [Act.put, List.setIfInBounds_toArray, List.set_cons_zero, List.set_cons_succ])
        refine turns (rs := [11]) (by kernel_rfl) (by rfl) ?_
        refine Turns.cons (o := { dst := some 28, op := .call { callee := .builtin .append, args := #[.tmp 24, .tmp 27], argTypes := #[25, 25] }, type := 25, pos := "l06_valuetext.go:109", after := #[{ on := 7, ground := .data }, { on := 10, ground := .data }, { on := 5, ground := .chain }], guard := none }) rfl (fun K hK => ?_) Turns.nil
        have hsz := HM7.out.size
        have hsf := HF.out
        have hll := HLE.out.1
        obtain ⟨i1, hi1, hy0, hy1, hy2⟩ := info_parts infoValue
        refine step_append_lies B7 (by rfl) (.tmp 24) (.tmp 27) _ (by rfl) (wb.heap.size + 2) 27 i1 (.agg #[.int .i64 0, .int .i64 0, .string ⟨#[]⟩, .slice none 0 0, .slice none 0 0]) 5 80 Tryz.underlying25 hi1 hy0 hy1 hy2 rfl (by decide) _ ts.length xs (by rfl) HM7.out.own.parts.own ⟨B5.heap.size, 0, none⟩ 1 1 [.int .i64 k0, .int .i64 n0, .string nm, .slice L nl lc, .slice A0 na ac0] (by rfl) rfl (World.news_of_block (cs := #[.int .i64 k0, .int .i64 n0, .string nm, .slice L nl lc, .slice A0 na ac0]) HZ10_7.out) (fun u hu => by simp at hu; rcases hu with rfl | rfl | rfl | rfl | rfl <;> rfl) (by omega) (by unfold maxLen; omega) (by omega) (by omega) B7.heap.size rfl (fun g2 cap2 B8 hown hgr hat hgl => ?_)
        have HE := Lib.hid (HM7.out.arg (show ts.length + 1 ≤ maxLen by unfold maxLen; omega) hown hgr hat)
        clear hown hgr hat hgl hsz hsf hll
        refine hK.out _ _ (Or.inl (up_of (by kernel_rfl))) ?_
        clear hK K
        (try simp only [Act.put, List.setIfInBounds_toArray, List.set_cons_zero, List.set_cons_succ])
        have HC : Hid (Whole1 B8 (w.heap.size + 1 + 1) 27 #[.int .i64 3, .int .i64 0, .string ⟨#[]⟩, .slice LL ls.length lc1, .slice A' ts.length ac]) := Lib.hid ((HE.out.2.1 (w.heap.size + 1 + 1) (show w.heap.size + 1 + 1 < wb.heap.size + 2 by have := HZS.out.1; have := HZS.out.2; omega)).trans HN.out)
        refine turns (rs := [13]) (by kernel_rfl) (by rfl) ?_
        refine Turns.cons rfl (fun K hK => ?_) Turns.nil
        have n3 : B8.cell? ⟨w.heap.size + 1 + 1, 3, none⟩ = some (.slice LL ls.length lc1) := HC.out.cell 3
        have r3 : B8.frozen? ⟨w.heap.size + 1 + 1, 3, none⟩ = false := HC.out.free 3
        have HC2 := Lib.hid (HC.out.set 3 (.slice (some ⟨g1, 0, none⟩) (ls.length + 1) cap1))
        have HK2 : Hid (((B8.setCell ⟨w.heap.size + 1 + 1, 3, none⟩ (.slice (some ⟨g1, 0, none⟩) (ls.length + 1) cap1)).os = B8.os ∧ (B8.setCell ⟨w.heap.size + 1 + 1, 3, none⟩ (.slice (some ⟨g1, 0, none⟩) (ls.length + 1) cap1)).tape = B8.tape ∧ (B8.setCell ⟨w.heap.size + 1 + 1, 3, none⟩ (.slice (some ⟨g1, 0, none⟩) (ls.length + 1) cap1)).output = B8.output ∧ (B8.setCell ⟨w.heap.size + 1 + 1, 3, none⟩ (.slice (some ⟨g1, 0, none⟩) (ls.length + 1) cap1)).heap.size = B8.heap.size) ∧ ∀ q, q ≠ w.heap.size + 1 + 1 → (B8.setCell ⟨w.heap.size + 1 + 1, 3, none⟩ (.slice (some ⟨g1, 0, none⟩) (ls.length + 1) cap1)).heap[q]? = B8.heap[q]?) := Lib.hid ⟨⟨rfl, rfl, rfl, by simp [World.setCell]⟩, fun q hq => Below.heap_setCell _ _ _ _ hq⟩
        go_simp
        clear n3 r3
        generalize B8.setCell ⟨w.heap.size + 1 + 1, 3, none⟩ (.slice (some ⟨g1, 0, none⟩) (ls.length + 1) cap1) = C1 at *
        refine hK.out _ _ (Or.inl (up_of (by kernel_rfl))) ?_
        clear hK K
        (try simp only [Act.put, List.setIfInBounds_toArray, List.set_cons_zero, List.set_cons_succ])
        refine take_any (i := 14) (v := .pointer (some ⟨w.heap.size + 1 + 1, 4, none⟩)) rfl (by kernel_rfl) (by kernel_rfl) (by kernel_rfl) (by kernel_rfl) (fun _ _ _ h => h) (Or.inl (up_of (by kernel_rfl))) ⟨by rfl, fun x => by go_simp⟩ ?_
        (try simp only [Act.put, List.setIfInBounds_toArray, List.set_cons_zero, List.set_cons_succ])
        refine turns (rs := [15]) (by kernel_rfl) (by rfl) ?_
        refine Turns.cons rfl (fun K hK => ?_) Turns.nil
        have n4 : C1.cell? ⟨w.heap.size + 1 + 1, 4, none⟩ = some (.slice A' ts.length ac) := HC2.out.cell 4
        have r4 : C1.frozen? ⟨w.heap.size + 1 + 1, 4, none⟩ = false := HC2.out.free 4
        have HC3 := Lib.hid (HC2.out.set 4 (.slice (some ⟨g2, 0, none⟩) (ts.length + 1) cap2))
        have HK3 : Hid (((C1.setCell ⟨w.heap.size + 1 + 1, 4, none⟩ (.slice (some ⟨g2, 0, none⟩) (ts.length + 1) cap2)).os = C1.os ∧ (C1.setCell ⟨w.heap.size + 1 + 1, 4, none⟩ (.slice (some ⟨g2, 0, none⟩) (ts.length + 1) cap2)).tape = C1.tape ∧ (C1.setCell ⟨w.heap.size + 1 + 1, 4, none⟩ (.slice (some ⟨g2, 0, none⟩) (ts.length + 1) cap2)).output = C1.output ∧ (C1.setCell ⟨w.heap.size + 1 + 1, 4, none⟩ (.slice (some ⟨g2, 0, none⟩) (ts.length + 1) cap2)).heap.size = C1.heap.size) ∧ ∀ q, q ≠ w.heap.size + 1 + 1 → (C1.setCell ⟨w.heap.size + 1 + 1, 4, none⟩ (.slice (some ⟨g2, 0, none⟩) (ts.length + 1) cap2)).heap[q]? = C1.heap[q]?) := Lib.hid ⟨⟨rfl, rfl, rfl, by simp [World.setCell]⟩, fun q hq => Below.heap_setCell _ _ _ _ hq⟩
        go_simp
        clear n4 r4
        generalize C1.setCell ⟨w.heap.size + 1 + 1, 4, none⟩ (.slice (some ⟨g2, 0, none⟩) (ts.length + 1) cap2) = C2 at *
        refine hK.out _ _ (Or.inl (up_of (by kernel_rfl))) ?_
        clear hK K
        (try simp only [Act.put, List.setIfInBounds_toArray, List.set_cons_zero, List.set_cons_succ])
        refine until_done (by kernel_rfl) ?_
        exact FIN.out B8 C2 g1 cap1 g2 cap2 HE.out.1 HE.out.2.1 HE.out.2.2 HC3.out ⟨HK3.out.1.1.trans HK2.out.1.1, HK3.out.1.2.1.trans HK2.out.1.2.1, HK3.out.1.2.2.1.trans HK2.out.1.2.2.1, HK3.out.1.2.2.2.trans HK2.out.1.2.2.2⟩ (fun q hq => (HK3.out.2 q hq).trans (HK2.out.2 q hq))
      refine Turns.cons rfl (fun K hK => ?_) Turns.nil
      go_simp
      have hb5 := (Below.refl B4.heap.size B4).alloc (Nat.le_refl _) (.cells #[.int .i64 k0, .int .i64 n0, .string nm, .slice L nl lc, .slice A0 na ac0] 27)
      have HM5 := Lib.hid (HM.out.below hb5)
      have HZ10_5 := Lib.hid (Whole1.new B4 27 #[.int .i64 k0, .int .i64 n0, .string nm, .slice L nl lc, .slice A0 na ac0])
      have HG5 := Lib.hid (show B4.heap.size ≤ (B4.alloc (.cells #[.int .i64 k0, .int .i64 n0, .string nm, .slice L nl lc, .slice A0 na ac0] 27)).heap.size from hb5.size)
      clear hb5
      generalize B4.alloc (.cells #[.int .i64 k0, .int .i64 n0, .string nm, .slice L nl lc, .slice A0 na ac0] 27) = B5 at *
      refine hK.out _ _ (Or.inr (HM5.out.S HN.out (show w.heap.size + 1 + 1 < wb.heap.size + 2 by have := HZS.out.1; have := HZS.out.2; omega))) ?_
      clear hK K
      (try simp only [Act.put, List.setIfInBounds_toArray, List.set_cons_zero, List.set_cons_succ])
      refine turns (rs := [4]) (by kernel_rfl) (by rfl) ?_
      refine Turns.cons rfl (fun K hK => ?_) Turns.nil
      go_simp
      have hb5 := (Below.refl B5.heap.size B5).alloc (Nat.le_refl _) (.cells #[.string l0] 9)
      have HM6 := Lib.hid (HM5.out.below hb5)
      have HZ4_6 := Lib.hid (Whole1.new B5 9 #[.string l0])
      have HZ10_6 := Lib.hid (HZ10_5.out.below hb5 HZ10_5.out.lt)
      have HG6 := Lib.hid (show B5.heap.size ≤ (B5.alloc (.cells #[.string l0] 9)).heap.size from hb5.size)
      clear hb5
      generalize B5.alloc (.cells #[.string l0] 9) = B6 at *
      refine hK.out _ _ (Or.inr (HM6.out.S HN.out (show w.heap.size + 1 + 1 < wb.heap.size + 2 by have := HZS.out.1; have := HZS.out.2; omega))) ?_
      clear hK K
      (try simp only [Act.put, List.setIfInBounds_toArray, List.set_cons_zero, List.set_cons_succ])
      refine turns (rs := [5]) (by kernel_rfl) (by rfl) ?_
      refine Turns.cons (o := { dst := some 22, op := .call { callee := .builtin .append, args := #[.tmp 18, .tmp 21], argTypes := #[24, 24] }, type := 24, pos := "l06_valuetext.go:109", after := #[{ on := 1, ground := .data }, { on := 4, ground := .data }], guard := none }) rfl (fun K hK => ?_) Turns.nil
      have hsz := HM6.out.size
      have hsf := HF.out
      have hll := HLE.out.2
      obtain ⟨i0, hi0, hx0, hx1, hx2⟩ := info_parts infoString
      refine step_append_lies B6 (by rfl) (.tmp 18) (.tmp 21) _ (by rfl) (wb.heap.size + 2) 9 i0 (.string ⟨#[]⟩) 1 16 Tryz.underlying24 hi0 hx0 hx1 hx2 rfl (by decide) _ ls.length (strVals ls) (by rfl) HM6.out.own.row ⟨B5.heap.size, 0, none⟩ 1 1 [.string l0] (by rfl) rfl (World.news_of_block (cs := #[.string l0]) HZ4_6.out) (fun u hu => by simp at hu; subst hu; rfl) (by omega) (by unfold maxLen; omega) (by omega) (by omega) B6.heap.size rfl (fun g1 cap1 B7 hown hgr hat hgl => ?_)
      have HM7 := Lib.hid (HM6.out.label l0 (Nat.le_trans HLU.out.2 (by unfold maxLen; omega)) hown hgr hat)
      have HZ10_7 := Lib.hid ((hgr.block _ HZ10_6.out.lt (fun e => by have h9 := HLL.out _ (own_addr HM6.out.own.row _ e.symm); have := HM.out.size; have := HG5.out; have := HG6.out; omega)).trans HZ10_6.out)
      have HG7 := Lib.hid hgr.size
      clear hown hgr hat hgl hsz hsf hll
      refine hK.out _ _ (Or.inr ⟨(HM7.out.node HN.out (show w.heap.size + 1 + 1 < wb.heap.size + 2 by have := HZS.out.1; have := HZS.out.2; omega)).cell 3, (HM7.out.node HN.out (show w.heap.size + 1 + 1 < wb.heap.size + 2 by have := HZS.out.1; have := HZS.out.2; omega)).cell 4, HM7.out.box.cell 0, HM7.out.box.cell 1, HM7.out.box.cell 2, HM7.out.box.cell 3, HM7.out.box.cell 4, HM7.out.box.cell 5⟩) ?_
      clear hK K
      (try simp only [Act.put, List.setIfInBounds_toArray, List.set_cons_zero, List.set_cons_succ])
      refine take_any (i := 12) (v := .pointer (some ⟨w.heap.size + 1 + 1, 3, none⟩)) rfl (by kernel_rfl) (by kernel_rfl) (by kernel_rfl) (by kernel_rfl) (fun _ _ _ h => h) (Or.inr (show (FieldS (w.heap.size + 1 + 1) B1.heap.size (.slice LL ls.length lc1) (.slice A' ts.length ac) (.string l0) (.int .i64 k0) (.int .i64 n0) (.string nm) (.slice L nl lc) (.slice A0 na ac0)) B7 from ⟨(HM7.out.node HN.out (show w.heap.size + 1 + 1 < wb.heap.size + 2 by have := HZS.out.1; have := HZS.out.2; omega)).cell 3, (HM7.out.node HN.out (show w.heap.size + 1 + 1 < wb.heap.size + 2 by have := HZS.out.1; have := HZS.out.2; omega)).cell 4, HM7.out.box.cell 0, HM7.out.box.cell 1, HM7.out.box.cell 2, HM7.out.box.cell 3, HM7.out.box.cell 4, HM7.out.box.cell 5⟩)) ⟨by rfl, fun x => by go_simp⟩ ?_
      (try simp only [Act.put, List.setIfInBounds_toArray, List.set_cons_zero, List.set_cons_succ])
      refine turns (rs := [11]) (by kernel_rfl) (by rfl) ?_
      refine Turns.cons (o := { dst := some 28, op := .call { callee := .builtin .append, args := #[.tmp 24, .tmp 27], argTypes := #[25, 25] }, type := 25, pos := "l06_valuetext.go:109", after := #[{ on := 7, ground := .data }, { on := 10, ground := .data }, { on := 5, ground := .chain }], guard := none }) rfl (fun K hK => ?_) Turns.nil
      have hsz := HM7.out.size
      have hsf := HF.out
      have hll := HLE.out.1
      obtain ⟨i1, hi1, hy0, hy1, hy2⟩ := info_parts infoValue
      refine step_append_lies B7 (by rfl) (.tmp 24) (.tmp 27) _ (by rfl) (wb.heap.size + 2) 27 i1 (.agg #[.int .i64 0, .int .i64 0, .string ⟨#[]⟩, .slice none 0 0, .slice none 0 0]) 5 80 Tryz.underlying25 hi1 hy0 hy1 hy2 rfl (by decide) _ ts.length xs (by rfl) HM7.out.own.parts.own ⟨B4.heap.size, 0, none⟩ 1 1 [.int .i64 k0, .int .i64 n0, .string nm, .slice L nl lc, .slice A0 na ac0] (by rfl) rfl (World.news_of_block (cs := #[.int .i64 k0, .int .i64 n0, .string nm, .slice L nl lc, .slice A0 na ac0]) HZ10_7.out) (fun u hu => by simp at hu; rcases hu with rfl | rfl | rfl | rfl | rfl <;> rfl) (by omega) (by unfold maxLen; omega) (by omega) (by omega) B7.heap.size rfl (fun g2 cap2 B8 hown hgr hat hgl => ?_)
      have HE := Lib.hid (HM7.out.arg (show ts.length + 1 ≤ maxLen by unfold maxLen; omega) hown hgr hat)
      clear hown hgr hat hgl hsz hsf hll
      refine hK.out _ _ (Or.inl (up_of (by kernel_rfl))) ?_
      clear hK K
      (try simp only [Act.put, List.setIfInBounds_toArray, List.set_cons_zero, List.set_cons_succ])
      have HC : Hid (Whole1 B8 (w.heap.size + 1 + 1) 27 #[.int .i64 3, .int .i64 0, .string ⟨#[]⟩, .slice LL ls.length lc1, .slice A' ts.length ac]) := Lib.hid ((HE.out.2.1 (w.heap.size + 1 + 1) (show w.heap.size + 1 + 1 < wb.heap.size + 2 by have := HZS.out.1; have := HZS.out.2; omega)).trans HN.out)
      refine turns (rs := [13]) (by kernel_rfl) (by rfl) ?_
      refine Turns.cons rfl (fun K hK => ?_) Turns.nil
      have n3 : B8.cell? ⟨w.heap.size + 1 + 1, 3, none⟩ = some (.slice LL ls.length lc1) := HC.out.cell 3
      have r3 : B8.frozen? ⟨w.heap.size + 1 + 1, 3, none⟩ = false := HC.out.free 3
      have HC2 := Lib.hid (HC.out.set 3 (.slice (some ⟨g1, 0, none⟩) (ls.length + 1) cap1))
      have HK2 : Hid (((B8.setCell ⟨w.heap.size + 1 + 1, 3, none⟩ (.slice (some ⟨g1, 0, none⟩) (ls.length + 1) cap1)).os = B8.os ∧ (B8.setCell ⟨w.heap.size + 1 + 1, 3, none⟩ (.slice (some ⟨g1, 0, none⟩) (ls.length + 1) cap1)).tape = B8.tape ∧ (B8.setCell ⟨w.heap.size + 1 + 1, 3, none⟩ (.slice (some ⟨g1, 0, none⟩) (ls.length + 1) cap1)).output = B8.output ∧ (B8.setCell ⟨w.heap.size + 1 + 1, 3, none⟩ (.slice (some ⟨g1, 0, none⟩) (ls.length + 1) cap1)).heap.size = B8.heap.size) ∧ ∀ q, q ≠ w.heap.size + 1 + 1 → (B8.setCell ⟨w.heap.size + 1 + 1, 3, none⟩ (.slice (some ⟨g1, 0, none⟩) (ls.length + 1) cap1)).heap[q]? = B8.heap[q]?) := Lib.hid ⟨⟨rfl, rfl, rfl, by simp [World.setCell]⟩, fun q hq => Below.heap_setCell _ _ _ _ hq⟩
      go_simp
      clear n3 r3
      generalize B8.setCell ⟨w.heap.size + 1 + 1, 3, none⟩ (.slice (some ⟨g1, 0, none⟩) (ls.length + 1) cap1) = C1 at *
      refine hK.out _ _ (Or.inl (up_of (by kernel_rfl))) ?_
      clear hK K
      (try simp only [Act.put, List.setIfInBounds_toArray, List.set_cons_zero, List.set_cons_succ])
      refine take_any (i := 14) (v := .pointer (some ⟨w.heap.size + 1 + 1, 4, none⟩)) rfl (by kernel_rfl) (by kernel_rfl) (by kernel_rfl) (by kernel_rfl) (fun _ _ _ h => h) (Or.inl (up_of (by kernel_rfl))) ⟨by rfl, fun x => by go_simp⟩ ?_
      (try simp only [Act.put, List.setIfInBounds_toArray, List.set_cons_zero, List.set_cons_succ])
      refine turns (rs := [15]) (by kernel_rfl) (by rfl) ?_
      refine Turns.cons rfl (fun K hK => ?_) Turns.nil
      have n4 : C1.cell? ⟨w.heap.size + 1 + 1, 4, none⟩ = some (.slice A' ts.length ac) := HC2.out.cell 4
      have r4 : C1.frozen? ⟨w.heap.size + 1 + 1, 4, none⟩ = false := HC2.out.free 4
      have HC3 := Lib.hid (HC2.out.set 4 (.slice (some ⟨g2, 0, none⟩) (ts.length + 1) cap2))
      have HK3 : Hid (((C1.setCell ⟨w.heap.size + 1 + 1, 4, none⟩ (.slice (some ⟨g2, 0, none⟩) (ts.length + 1) cap2)).os = C1.os ∧ (C1.setCell ⟨w.heap.size + 1 + 1, 4, none⟩ (.slice (some ⟨g2, 0, none⟩) (ts.length + 1) cap2)).tape = C1.tape ∧ (C1.setCell ⟨w.heap.size + 1 + 1, 4, none⟩ (.slice (some ⟨g2, 0, none⟩) (ts.length + 1) cap2)).output = C1.output ∧ (C1.setCell ⟨w.heap.size + 1 + 1, 4, none⟩ (.slice (some ⟨g2, 0, none⟩) (ts.length + 1) cap2)).heap.size = C1.heap.size) ∧ ∀ q, q ≠ w.heap.size + 1 + 1 → (C1.setCell ⟨w.heap.size + 1 + 1, 4, none⟩ (.slice (some ⟨g2, 0, none⟩) (ts.length + 1) cap2)).heap[q]? = C1.heap[q]?) := Lib.hid ⟨⟨rfl, rfl, rfl, by simp [World.setCell]⟩, fun q hq => Below.heap_setCell _ _ _ _ hq⟩
      go_simp
      clear n4 r4
      generalize C1.setCell ⟨w.heap.size + 1 + 1, 4, none⟩ (.slice (some ⟨g2, 0, none⟩) (ts.length + 1) cap2) = C2 at *
      refine hK.out _ _ (Or.inl (up_of (by kernel_rfl))) ?_
      clear hK K
      (try simp only [Act.put, List.setIfInBounds_toArray, List.set_cons_zero, List.set_cons_succ])
      refine until_done (by kernel_rfl) ?_
      exact FIN.out B8 C2 g1 cap1 g2 cap2 HE.out.1 HE.out.2.1 HE.out.2.2 HC3.out ⟨HK3.out.1.1.trans HK2.out.1.1, HK3.out.1.2.1.trans HK2.out.1.2.1, HK3.out.1.2.2.1.trans HK2.out.1.2.2.1, HK3.out.1.2.2.2.trans HK2.out.1.2.2.2⟩ (fun q hq => (HK3.out.2 q hq).trans (HK2.out.2 q hq))
  case done =>
    rintro xs A C C' hI hT hS hsb hAs hK
    have hok := hI.ok
    have hIC := (hI.turn hT hl2 hl3 (by omega)).same hsb (by omega) (by omega)
    obtain ⟨j', hseqx, hnod, hvC⟩ := hS hok
    have hvC' := hvC.below (hsb.below (B := wb.heap.size) (by omega) (by have := hI.turned.size; have := hT.size; omega)) (by omega) (by omega) (by omega)
    obtain ⟨LL, lc1, A', ac, xs', vs, lo, hi, hnode, hown⟩ := hIC.node
    have hsv : sizeVa (.mk 3 0 ⟨#[]⟩ (labs xs) (vals xs)) = 1 + nodes (fun b : ByteArray × Va => b.2) xs := by rw [sizeVa, sizeVas_map]; unfold nodes; simp only [szs, List.map_map]; rfl
    have HX : Hid (rdRec (rdVa n) (restOf s j) = some (.mk 3 0 ⟨#[]⟩ (labs xs) (vals xs), restOf s j')) := Lib.hid (rec_some hseqx)
    generalize labs xs = ls at hnode hown HX hsv
    generalize vals xs = ts at hnode hown HX hsv
    have HSV := Lib.hid hsv
    clear hsv
    have HI3 := Lib.hid hIC
    have HV3 := Lib.hid hvC'
    have HOW := Lib.hid hown
    have HNO := Lib.hid hnod
    have HZS := Lib.hid (And.intro hsz0 hsz1)
    have HK := Lib.hid hK
    have hrs : w.heap.size + 6 < C'.heap.size := by have := hsb.2; have := hT.size; omega
    have d0 : C'.cell? ⟨w.heap.size, 0, none⟩ = some (.int .i64 0) := HI3.out.res.cell 0
    have f0 : C'.frozen? ⟨w.heap.size, 0, none⟩ = false := HI3.out.res.free 0
    have d1 : C'.cell? ⟨w.heap.size, 1, none⟩ = some (.int .i64 0) := HI3.out.res.cell 1
    have f1 : C'.frozen? ⟨w.heap.size, 1, none⟩ = false := HI3.out.res.free 1
    have d2 : C'.cell? ⟨w.heap.size, 2, none⟩ = some (.string ⟨#[]⟩) := HI3.out.res.cell 2
    have f2 : C'.frozen? ⟨w.heap.size, 2, none⟩ = false := HI3.out.res.free 2
    have d3 : C'.cell? ⟨w.heap.size, 3, none⟩ = some (.slice none 0 0) := HI3.out.res.cell 3
    have f3 : C'.frozen? ⟨w.heap.size, 3, none⟩ = false := HI3.out.res.free 3
    have d4 : C'.cell? ⟨w.heap.size, 4, none⟩ = some (.slice none 0 0) := HI3.out.res.cell 4
    have f4 : C'.frozen? ⟨w.heap.size, 4, none⟩ = false := HI3.out.res.free 4
    have e0 : C'.cell? ⟨w.heap.size + 1, 0, none⟩ = some (.bool false) := HI3.out.flag.cell 0
    have g0 : C'.frozen? ⟨w.heap.size + 1, 0, none⟩ = false := HI3.out.flag.free 0
    have n0 : C'.cell? ⟨w.heap.size + 1 + 1, 0, none⟩ = some (.int .i64 3) := hnode.cell 0
    have n1 : C'.cell? ⟨w.heap.size + 1 + 1, 1, none⟩ = some (.int .i64 0) := hnode.cell 1
    have n2 : C'.cell? ⟨w.heap.size + 1 + 1, 2, none⟩ = some (.string ⟨#[]⟩) := hnode.cell 2
    have n3 : C'.cell? ⟨w.heap.size + 1 + 1, 3, none⟩ = some (.slice LL ls.length lc1) := hnode.cell 3
    have n4 : C'.cell? ⟨w.heap.size + 1 + 1, 4, none⟩ = some (.slice A' ts.length ac) := hnode.cell 4
    clear hIC hvC hvC' hown hseqx hnod hnode hI hS hT hsb hAs hK hsz0 hsz1 hok hseq
    gi_wp2
    clear d0 d1 d2 d3 d4 f0 f1 f2 f3 f4 e0 g0 n0 n1 n2 n3 n4
    obtain ⟨o1, o2, o3, o4, o5⟩ := box_outs HI3.out.res rfl HI3.out.flag HI3.out.turned (.int .i64 3) (.int .i64 0) (.string ⟨#[]⟩) (.slice LL ls.length lc1) (.slice A' ts.length ac) (.bool true)
    have hz0 := HZS.out.1
    have hz1 := HZS.out.2
    generalize ((((((C'.setCell ⟨w.heap.size, 0, none⟩ (.int .i64 3)).setCell ⟨w.heap.size, 1, none⟩ (.int .i64 0)).setCell ⟨w.heap.size, 2, none⟩ (.string ⟨#[]⟩)).setCell ⟨w.heap.size, 3, none⟩ (.slice LL ls.length lc1)).setCell ⟨w.heap.size, 4, none⟩ (.slice A' ts.length ac)).setCell ⟨w.heap.size + 1, 0, none⟩ (.bool true)) = W2 at *
    have hK2 : W2.heap[wb.heap.size]? = some (.deferred (some [])) := (o4 _ (by omega) (by omega)).trans HK.out
    refine ⟨by simp, .inl ⟨_, _, rfl, run_takeDeferred hK2, ?_⟩⟩
    have hput := sameBut_put W2 wb.heap.size (.deferred none)
    have hs5 := o5.size
    have hp3 := hput.below (B := w.heap.size) (by omega) (by omega)
    have q1 : Whole1 (W2.putObj wb.heap.size (.deferred none)) w.heap.size 27 #[.int .i64 3, .int .i64 0, .string ⟨#[]⟩, .slice LL ls.length lc1, .slice A' ts.length ac] := (hput.block o1.lt (by omega)).trans o1
    have q2 : Whole1 (W2.putObj wb.heap.size (.deferred none)) (w.heap.size + 1) 4 #[.bool true] := (hput.block o2.lt (by omega)).trans o2
    have hk3 : ∀ g, wb.heap.size + 2 ≤ g → g < C'.heap.size → (W2.putObj wb.heap.size (.deferred none)).heap[g]? = C'.heap[g]? := fun g hg hl => (hput.block (by omega) (by omega)).trans (o4 g (by omega) (by omega))
    have hs3 : C'.heap.size ≤ (W2.putObj wb.heap.size (.deferred none)).heap.size := by rw [hput.2]; exact hs5
    have hV := (HV3.out.below o5 hl1 hl2 hl3).below hp3 hl1 hl2 hl3
    have hT := o3.below hp3 (Nat.le_refl _)
    have hO := (HOW.out.own.keep hs3 hk3).base (base := w.heap.size) (by omega)
    clear o1 o2 o3 o4 o5 hput hp3 hk3 hK2
    generalize W2.putObj wb.heap.size (.deferred none) = W3 at *
    have d0 : W3.cell? ⟨w.heap.size, 0, none⟩ = some (.int .i64 3) := q1.cell 0
    have d1 : W3.cell? ⟨w.heap.size, 1, none⟩ = some (.int .i64 0) := q1.cell 1
    have d2 : W3.cell? ⟨w.heap.size, 2, none⟩ = some (.string ⟨#[]⟩) := q1.cell 2
    have d3 : W3.cell? ⟨w.heap.size, 3, none⟩ = some (.slice LL ls.length lc1) := q1.cell 3
    have d4 : W3.cell? ⟨w.heap.size, 4, none⟩ = some (.slice A' ts.length ac) := q1.cell 4
    have e0 : W3.cell? ⟨w.heap.size + 1, 0, none⟩ = some (.bool true) := q2.cell 0
    have hsv := HSV.out
    have hn := HNO.out
    refine ⟨.tuple #[.agg #[.int .i64 3, .int .i64 0, .string ⟨#[]⟩, .slice LL ls.length lc1, .slice A' ts.length ac], .bool true], by simp [results, Tryz.results43, go_sem, d0, d1, d2, d3, d4, e0], 3, 0, ⟨#[]⟩, LL, ls.length, lc1, A', ts.length, ac, true, j', _, rfl, hV, hT, Or.inr ⟨rfl, _, HX.out, by omega, by omega, hO⟩⟩
  case stop =>
    rintro pre A C C' hI hT hS hsb hAs hK
    have hIC := (hI.turn hT hl2 hl3).same hsb (by omega)
    obtain ⟨⟨j', m', hvC⟩, hbad⟩ := hS
    have HBAD := Lib.hid (rec_bad (hbad hI.ok))
    have hsb0 := hsb.below (B := w.heap.size) (by omega) (by have := hI.turned.size; have := hT.size; omega)
    have hV0 := hvC.below hsb0 hl1 hl2 hl3
    have hrs : w.heap.size + 6 < C'.heap.size := by have := hsb.2; have := hT.size; omega
    have HK := Lib.hid hK
    have HV3 := Lib.hid hV0
    have HI3 := Lib.hid hIC
    have HZS := Lib.hid (And.intro hsz0 hsz1)
    clear hIC hvC hbad hsb0 hV0 hK hI hT hsb hsz0 hsz1 hseq hAs
    gi_wp2
    have hz0 := HZS.out.1
    have hz1 := HZS.out.2
    refine ⟨by simp, .inl ⟨_, _, rfl, run_takeDeferred HK.out, ?_⟩⟩
    have hput := sameBut_put C' wb.heap.size (.deferred none)
    have hp3 := hput.below (B := w.heap.size) (by omega) (by omega)
    have q1 : Whole1 (C'.putObj wb.heap.size (.deferred none)) w.heap.size 27 #[.int .i64 0, .int .i64 0, .string ⟨#[]⟩, .slice none 0 0, .slice none 0 0] := (hput.block HI3.out.res.lt (by omega)).trans HI3.out.res
    have q2 : Whole1 (C'.putObj wb.heap.size (.deferred none)) (w.heap.size + 1) 4 #[.bool false] := (hput.block HI3.out.flag.lt (by omega)).trans HI3.out.flag
    have hV := HV3.out.below hp3 hl1 hl2 hl3
    have hT := HI3.out.turned.below hp3 (Nat.le_refl _)
    clear hput hp3
    generalize C'.putObj wb.heap.size (.deferred none) = W3 at *
    have d0 : W3.cell? ⟨w.heap.size, 0, none⟩ = some (.int .i64 0) := q1.cell 0
    have d1 : W3.cell? ⟨w.heap.size, 1, none⟩ = some (.int .i64 0) := q1.cell 1
    have d2 : W3.cell? ⟨w.heap.size, 2, none⟩ = some (.string ⟨#[]⟩) := q1.cell 2
    have d3 : W3.cell? ⟨w.heap.size, 3, none⟩ = some (.slice none 0 0) := q1.cell 3
    have d4 : W3.cell? ⟨w.heap.size, 4, none⟩ = some (.slice none 0 0) := q1.cell 4
    have e0 : W3.cell? ⟨w.heap.size + 1, 0, none⟩ = some (.bool false) := q2.cell 0
    refine ⟨.tuple #[.agg #[.int .i64 0, .int .i64 0, .string ⟨#[]⟩, .slice none 0 0, .slice none 0 0], .bool false], by simp [results, Tryz.results43, go_sem, d0, d1, d2, d3, d4, e0], 0, 0, ⟨#[]⟩, none, 0, 0, none, 0, 0, false, _, _, rfl, hV, hT, Or.inl ⟨rfl, HBAD.out⟩⟩

end Go.Proofs.YtceclhndagoddaaGreatDoor
