/- spec.l5Default, spec.DefaultOf. -/
import Derived.Test.YtinkanbaiflhdaaSpecDef3
import Derived.Test.YtinkanbaiflhdaaSpecHas
namespace Go.Proofs.Ytinkanbaiflhdaa
set_option maxRecDepth 100000
open Go.RowKit
attribute [local go_sem ↓] Go.wp_at_zero Go.wp_at_succ

def DefOne (f : Nat) (t : Ty) : Prop := ∀ (v : Value) (w : World), TyAt w w.heap.size v t → formTy t = true → szTy t ≤ 1048576 → Calls Try.prog f #[v] w (NewVa w (defVa t))

set_option maxHeartbeats 1000000 in
theorem specDef_1 (ls : List ByteArray) (ts : List Ty) (L A : Option Addr) (lc ac : Nat) (w : World) : Calls Try.prog 68 #[.agg #[.int .i64 1, .slice L ls.length lc, .slice A ts.length ac]] w (NewVa w (.mk 1 0 ⟨#[]⟩ [] [])) := by
  obtain ⟨hb0, p0, r0, hs0⟩ := boxes2 w 27 51 #[.int .i64 1, .slice L ls.length lc, .slice A ts.length ac] #[.int .i64 0, .int .i64 0, .string ⟨#[]⟩, .slice none 0 0, .slice none 0 0]
  go_enter Try.func68, Try.ntmps68
  go_wp2_with fail
  generalize (w.alloc (.cells #[.int .i64 1, .slice L ls.length lc, .slice A ts.length ac] 27)).alloc (.cells #[.int .i64 0, .int .i64 0, .string ⟨#[]⟩, .slice none 0 0, .slice none 0 0] 51) = w0 at *
  refine (l5Int_any 0 w0).mono ?_
  rintro e w1 ⟨rfl, hb1⟩
  have hb1' := hb0.trans (hb1.mono hb0.size)
  have r1 := r0.below hb1 r0.lt
  have d0 : w1.cell? ⟨w.heap.size + 1, 0, none⟩ = some (.int .i64 0) := r1.cell 0
  have e0 : w1.frozen? ⟨w.heap.size + 1, 0, none⟩ = false := r1.free 0
  have d1 : w1.cell? ⟨w.heap.size + 1, 1, none⟩ = some (.int .i64 0) := r1.cell 1
  have e1 : w1.frozen? ⟨w.heap.size + 1, 1, none⟩ = false := r1.free 1
  have d2 : w1.cell? ⟨w.heap.size + 1, 2, none⟩ = some (.string ⟨#[]⟩) := r1.cell 2
  have e2 : w1.frozen? ⟨w.heap.size + 1, 2, none⟩ = false := r1.free 2
  have d3 : w1.cell? ⟨w.heap.size + 1, 3, none⟩ = some (.slice none 0 0) := r1.cell 3
  have e3 : w1.frozen? ⟨w.heap.size + 1, 3, none⟩ = false := r1.free 3
  have d4 : w1.cell? ⟨w.heap.size + 1, 4, none⟩ = some (.slice none 0 0) := r1.cell 4
  have e4 : w1.frozen? ⟨w.heap.size + 1, 4, none⟩ = false := r1.free 4
  clear p0 r0 r1 hs0
  go_wp2
  refine bodyPost_ret (v := .agg #[.int .i64 1, .int .i64 0, .string ⟨#[]⟩, .slice none 0 0, .slice none 0 0]) (by simp [results, Try.results68, go_sem, d0, d1, d2, d3, d4]) rfl ⟨_, rfl, ?_, ?_⟩
  · exact VaIn.leaf _ _ _ _ _ _ _ _ _ (by simp [ByteArray.size])
  · exact ((((hb1'.setCell (by simp) _).setCell (by simp) _).setCell (by simp) _).setCell (by simp) _).setCell (by simp) _

set_option maxHeartbeats 1000000 in
theorem specDef_2 (ls : List ByteArray) (ts : List Ty) (L A : Option Addr) (lc ac : Nat) (w : World) : Calls Try.prog 68 #[.agg #[.int .i64 2, .slice L ls.length lc, .slice A ts.length ac]] w (NewVa w (.mk 2 0 ⟨#[]⟩ [] [])) := by
  obtain ⟨hb0, p0, r0, hs0⟩ := boxes2 w 27 51 #[.int .i64 2, .slice L ls.length lc, .slice A ts.length ac] #[.int .i64 0, .int .i64 0, .string ⟨#[]⟩, .slice none 0 0, .slice none 0 0]
  go_enter Try.func68, Try.ntmps68
  go_wp2_with fail
  generalize (w.alloc (.cells #[.int .i64 2, .slice L ls.length lc, .slice A ts.length ac] 27)).alloc (.cells #[.int .i64 0, .int .i64 0, .string ⟨#[]⟩, .slice none 0 0, .slice none 0 0] 51) = w0 at *
  refine (l5Bool_any false w0).mono ?_
  rintro e w1 ⟨rfl, hb1⟩
  have hb1' := hb0.trans (hb1.mono hb0.size)
  have r1 := r0.below hb1 r0.lt
  have d0 : w1.cell? ⟨w.heap.size + 1, 0, none⟩ = some (.int .i64 0) := r1.cell 0
  have e0 : w1.frozen? ⟨w.heap.size + 1, 0, none⟩ = false := r1.free 0
  have d1 : w1.cell? ⟨w.heap.size + 1, 1, none⟩ = some (.int .i64 0) := r1.cell 1
  have e1 : w1.frozen? ⟨w.heap.size + 1, 1, none⟩ = false := r1.free 1
  have d2 : w1.cell? ⟨w.heap.size + 1, 2, none⟩ = some (.string ⟨#[]⟩) := r1.cell 2
  have e2 : w1.frozen? ⟨w.heap.size + 1, 2, none⟩ = false := r1.free 2
  have d3 : w1.cell? ⟨w.heap.size + 1, 3, none⟩ = some (.slice none 0 0) := r1.cell 3
  have e3 : w1.frozen? ⟨w.heap.size + 1, 3, none⟩ = false := r1.free 3
  have d4 : w1.cell? ⟨w.heap.size + 1, 4, none⟩ = some (.slice none 0 0) := r1.cell 4
  have e4 : w1.frozen? ⟨w.heap.size + 1, 4, none⟩ = false := r1.free 4
  clear p0 r0 r1 hs0
  go_wp2
  refine bodyPost_ret (v := .agg #[.int .i64 2, .int .i64 0, .string ⟨#[]⟩, .slice none 0 0, .slice none 0 0]) (by simp [results, Try.results68, go_sem, d0, d1, d2, d3, d4]) rfl ⟨_, rfl, ?_, ?_⟩
  · exact VaIn.leaf _ _ _ _ _ _ _ _ _ (by simp [ByteArray.size])
  · exact ((((hb1'.setCell (by simp) _).setCell (by simp) _).setCell (by simp) _).setCell (by simp) _).setCell (by simp) _

set_option maxHeartbeats 1000000 in
theorem specDef_5 (ls : List ByteArray) (ts : List Ty) (L A : Option Addr) (lc ac : Nat) (w : World) : Calls Try.prog 68 #[.agg #[.int .i64 5, .slice L ls.length lc, .slice A ts.length ac]] w (NewVa w (.mk 5 0 ⟨#[]⟩ [] [])) := by
  obtain ⟨hb0, p0, r0, hs0⟩ := boxes2 w 27 51 #[.int .i64 5, .slice L ls.length lc, .slice A ts.length ac] #[.int .i64 0, .int .i64 0, .string ⟨#[]⟩, .slice none 0 0, .slice none 0 0]
  go_enter Try.func68, Try.ntmps68
  go_upto_region 15 with fail
  generalize (w.alloc (.cells #[.int .i64 5, .slice L ls.length lc, .slice A ts.length ac] 27)).alloc (.cells #[.int .i64 0, .int .i64 0, .string ⟨#[]⟩, .slice none 0 0, .slice none 0 0] 51) = w0 at *
  have d0 : w0.cell? ⟨w.heap.size + 1, 0, none⟩ = some (.int .i64 0) := r0.cell 0
  have e0 : w0.frozen? ⟨w.heap.size + 1, 0, none⟩ = false := r0.free 0
  have d1 : w0.cell? ⟨w.heap.size + 1, 1, none⟩ = some (.int .i64 0) := r0.cell 1
  have e1 : w0.frozen? ⟨w.heap.size + 1, 1, none⟩ = false := r0.free 1
  have d2 : w0.cell? ⟨w.heap.size + 1, 2, none⟩ = some (.string ⟨#[]⟩) := r0.cell 2
  have e2 : w0.frozen? ⟨w.heap.size + 1, 2, none⟩ = false := r0.free 2
  have d3 : w0.cell? ⟨w.heap.size + 1, 3, none⟩ = some (.slice none 0 0) := r0.cell 3
  have e3 : w0.frozen? ⟨w.heap.size + 1, 3, none⟩ = false := r0.free 3
  have d4 : w0.cell? ⟨w.heap.size + 1, 4, none⟩ = some (.slice none 0 0) := r0.cell 4
  have e4 : w0.frozen? ⟨w.heap.size + 1, 4, none⟩ = false := r0.free 4
  clear p0 r0 hs0
  go_wp2
  refine bodyPost_ret (v := .agg #[.int .i64 5, .int .i64 0, .string ⟨#[]⟩, .slice none 0 0, .slice none 0 0]) (by simp [results, Try.results68, go_sem, d0, d1, d2, d3, d4]) rfl ⟨_, rfl, ?_, ?_⟩
  · exact VaIn.leaf _ _ _ _ _ _ _ _ _ (by simp [ByteArray.size])
  · exact ((((hb0.setCell (by simp) _).setCell (by simp) _).setCell (by simp) _).setCell (by simp) _).setCell (by simp) _

set_option maxHeartbeats 4000000 in
theorem specDef_4 (ls : List ByteArray) (ts : List Ty) (L A : Option Addr) (lc ac : Nat) (w : World) (hl : StrsAt w w.heap.size L ls) (hz : ∀ i, (h : i < ls.length) → ls[i].size ≤ maxLen) (ha : TysAt w w.heap.size A ts) (h0l : 0 < ls.length) (h0t : 0 < ts.length)
    (hall : ∀ (v : Value) (W : World), TyAt W W.heap.size v ts[0] → Calls Try.prog 68 #[v] W (NewVa W (defVa ts[0]))) :
    Calls Try.prog 68 #[.agg #[.int .i64 4, .slice L ls.length lc, .slice A ts.length ac]] w (NewVa w (.mk 4 0 ls[0] [] [defVa ts[0]])) := by
  have HALL := Lib.hid hall
  have HN := Lib.hid hz
  obtain ⟨hb0, p0, r0, hs0⟩ := boxes2 w 27 51 #[.int .i64 4, .slice L ls.length lc, .slice A ts.length ac] #[.int .i64 0, .int .i64 0, .string ⟨#[]⟩, .slice none 0 0, .slice none 0 0]
  have h0lI : (0 : Int) < (ls.length : Int) := by omega
  have h0tI : (0 : Int) < (ts.length : Int) := by omega
  obtain ⟨b, off, rfl, hbw1, q2a⟩ := hl 0 h0l
  obtain ⟨b', off', M, mc, C, cc, rfl, hbw1', q3a, q4a, q5a, _, _, _, _, ht⟩ := ha.elem 0 h0t
  rw [Nat.zero_mul, Nat.add_zero] at q3a q4a q5a
  rw [Nat.add_zero] at q2a
  have q2 := (hb0.cell (p := ⟨b, off, none⟩) hbw1).trans q2a
  have q3 := (hb0.cell (p := ⟨b', off', none⟩) hbw1').trans q3a
  have q4 := (hb0.cell (p := ⟨b', off' + 1, none⟩) hbw1').trans q4a
  have q5 := (hb0.cell (p := ⟨b', off' + 2, none⟩) hbw1').trans q5a
  have ht0 := ht.up hb0
  clear hall hz hl ha q2a q3a q4a q5a ht
  go_enter Try.func68, Try.ntmps68
  go_upto_region 14 with fail
  generalize (w.alloc (.cells #[.int .i64 4, .slice (some ⟨b, off, none⟩) ls.length lc, .slice (some ⟨b', off', none⟩) ts.length ac] 27)).alloc (.cells #[.int .i64 0, .int .i64 0, .string ⟨#[]⟩, .slice none 0 0, .slice none 0 0] 51) = w0 at *
  have hbw : b < w0.heap.size := by omega
  have hbw' : b' < w0.heap.size := by omega
  have q0 : w0.cell? ⟨w.heap.size, 1, none⟩ = some (.slice (some ⟨b, off, none⟩) ls.length lc) := p0.cell 1
  have q1 : w0.cell? ⟨w.heap.size, 2, none⟩ = some (.slice (some ⟨b', off', none⟩) ts.length ac) := p0.cell 2
  have hpl := p0.lt
  have ed := (Below.refl w0.heap.size w0).drew
  have HT := Lib.hid (HALL.out _ w0.drew (ht0.up ed))
  have HR0 := Lib.hid r0
  have HZ := Lib.hid hs0
  clear p0 r0 hs0 ht0
  go_region_held3 (fun x => x.cell? ⟨w.heap.size, 1, none⟩ = some (.slice (some ⟨b, off, none⟩) ls.length lc) ∧ x.cell? ⟨w.heap.size, 2, none⟩ = some (.slice (some ⟨b', off', none⟩) ts.length ac) ∧ x.cell? ⟨b, off, none⟩ = some (.string ls[0]) ∧ x.cell? ⟨b', off', none⟩ = some (.int .i64 ts[0].kind) ∧ x.cell? ⟨b', off' + 1, none⟩ = some (.slice M ts[0].labels.length mc) ∧ x.cell? ⟨b', off' + 2, none⟩ = some (.slice C ts[0].args.length cc)) ((first | (with_reducible exact ⟨(ed.cell (p := ⟨w.heap.size, 1, none⟩) hpl).trans q0, (ed.cell (p := ⟨w.heap.size, 2, none⟩) hpl).trans q1, (ed.cell (p := ⟨b, off, none⟩) hbw).trans q2, (ed.cell (p := ⟨b', off', none⟩) hbw').trans q3, (ed.cell (p := ⟨b', off' + 1, none⟩) hbw').trans q4, (ed.cell (p := ⟨b', off' + 2, none⟩) hbw').trans q5⟩) | (with_reducible exact ⟨k0, k1, k2, k3, k4, k5⟩) | (with_reducible exact ⟨m0, m1, m2, m3, m4, m5⟩) | (with_reducible exact ⟨s0, s1, s2, s3, s4, s5⟩)))
    (first | (go_at_call 68; refine HT.out.mono ?_; rintro e w1 ⟨v1, rfl, ht1, hb1⟩; have HT1 := Lib.hid ht1; obtain ⟨T1, U1, T2, U2, _, rfl, _⟩ := ht1.open; clear ht1; have hb1' := ed.trans hb1; have hbA := hb1'.alloc hb1'.size (.cells #[.int .i64 (defVa ts[0]).kind, .int .i64 (defVa ts[0]).num, .string (defVa ts[0]).name, .slice T1 (defVa ts[0]).labels.length U1, .slice T2 (defVa ts[0]).args.length U2] 51); have r2 := (HR0.out.below hbA HR0.out.lt); have k0 := (hb1'.cell (p := ⟨w.heap.size, 1, none⟩) hpl).trans q0; have k1 := (hb1'.cell (p := ⟨w.heap.size, 2, none⟩) hpl).trans q1; have k2 := (hb1'.cell (p := ⟨b, off, none⟩) hbw).trans q2; have k3 := (hb1'.cell (p := ⟨b', off', none⟩) hbw').trans q3; have k4 := (hb1'.cell (p := ⟨b', off' + 1, none⟩) hbw').trans q4; have k5 := (hb1'.cell (p := ⟨b', off' + 2, none⟩) hbw').trans q5; have m0 := (hbA.cell (p := ⟨w.heap.size, 1, none⟩) hpl).trans q0; have m1 := (hbA.cell (p := ⟨w.heap.size, 2, none⟩) hpl).trans q1; have m2 := (hbA.cell (p := ⟨b, off, none⟩) hbw).trans q2; have m3 := (hbA.cell (p := ⟨b', off', none⟩) hbw').trans q3; have m4 := (hbA.cell (p := ⟨b', off' + 1, none⟩) hbw').trans q4; have m5 := (hbA.cell (p := ⟨b', off' + 2, none⟩) hbw').trans q5; have d0 : (w1.alloc (.cells #[.int .i64 (defVa ts[0]).kind, .int .i64 (defVa ts[0]).num, .string (defVa ts[0]).name, .slice T1 (defVa ts[0]).labels.length U1, .slice T2 (defVa ts[0]).args.length U2] 51)).cell? ⟨w.heap.size + 1, 0, none⟩ = some (.int .i64 0) := r2.cell 0; have e0 : (w1.alloc (.cells #[.int .i64 (defVa ts[0]).kind, .int .i64 (defVa ts[0]).num, .string (defVa ts[0]).name, .slice T1 (defVa ts[0]).labels.length U1, .slice T2 (defVa ts[0]).args.length U2] 51)).frozen? ⟨w.heap.size + 1, 0, none⟩ = false := r2.free 0; have d1 : (w1.alloc (.cells #[.int .i64 (defVa ts[0]).kind, .int .i64 (defVa ts[0]).num, .string (defVa ts[0]).name, .slice T1 (defVa ts[0]).labels.length U1, .slice T2 (defVa ts[0]).args.length U2] 51)).cell? ⟨w.heap.size + 1, 1, none⟩ = some (.int .i64 0) := r2.cell 1; have e1 : (w1.alloc (.cells #[.int .i64 (defVa ts[0]).kind, .int .i64 (defVa ts[0]).num, .string (defVa ts[0]).name, .slice T1 (defVa ts[0]).labels.length U1, .slice T2 (defVa ts[0]).args.length U2] 51)).frozen? ⟨w.heap.size + 1, 1, none⟩ = false := r2.free 1; have d2 : (w1.alloc (.cells #[.int .i64 (defVa ts[0]).kind, .int .i64 (defVa ts[0]).num, .string (defVa ts[0]).name, .slice T1 (defVa ts[0]).labels.length U1, .slice T2 (defVa ts[0]).args.length U2] 51)).cell? ⟨w.heap.size + 1, 2, none⟩ = some (.string ⟨#[]⟩) := r2.cell 2; have e2 : (w1.alloc (.cells #[.int .i64 (defVa ts[0]).kind, .int .i64 (defVa ts[0]).num, .string (defVa ts[0]).name, .slice T1 (defVa ts[0]).labels.length U1, .slice T2 (defVa ts[0]).args.length U2] 51)).frozen? ⟨w.heap.size + 1, 2, none⟩ = false := r2.free 2; have d3 : (w1.alloc (.cells #[.int .i64 (defVa ts[0]).kind, .int .i64 (defVa ts[0]).num, .string (defVa ts[0]).name, .slice T1 (defVa ts[0]).labels.length U1, .slice T2 (defVa ts[0]).args.length U2] 51)).cell? ⟨w.heap.size + 1, 3, none⟩ = some (.slice none 0 0) := r2.cell 3; have e3 : (w1.alloc (.cells #[.int .i64 (defVa ts[0]).kind, .int .i64 (defVa ts[0]).num, .string (defVa ts[0]).name, .slice T1 (defVa ts[0]).labels.length U1, .slice T2 (defVa ts[0]).args.length U2] 51)).frozen? ⟨w.heap.size + 1, 3, none⟩ = false := r2.free 3; have d4 : (w1.alloc (.cells #[.int .i64 (defVa ts[0]).kind, .int .i64 (defVa ts[0]).num, .string (defVa ts[0]).name, .slice T1 (defVa ts[0]).labels.length U1, .slice T2 (defVa ts[0]).args.length U2] 51)).cell? ⟨w.heap.size + 1, 4, none⟩ = some (.slice none 0 0) := r2.cell 4; have e4 : (w1.alloc (.cells #[.int .i64 (defVa ts[0]).kind, .int .i64 (defVa ts[0]).num, .string (defVa ts[0]).name, .slice T1 (defVa ts[0]).labels.length U1, .slice T2 (defVa ts[0]).args.length U2] 51)).frozen? ⟨w.heap.size + 1, 4, none⟩ = false := r2.free 4; have hbS := ((((((Below.refl (w.heap.size + 1) (w1.alloc (.cells #[.int .i64 (defVa ts[0]).kind, .int .i64 (defVa ts[0]).num, .string (defVa ts[0]).name, .slice T1 (defVa ts[0]).labels.length U1, .slice T2 (defVa ts[0]).args.length U2] 51))).setCell (p := ⟨w.heap.size + 1, 0, none⟩) (Nat.le_refl _) (.int .i64 4)).setCell (p := ⟨w.heap.size + 1, 1, none⟩) (Nat.le_refl _) (.int .i64 0)).setCell (p := ⟨w.heap.size + 1, 2, none⟩) (Nat.le_refl _) (.string ls[0])).setCell (p := ⟨w.heap.size + 1, 3, none⟩) (Nat.le_refl _) (.slice none 0 0)).setCell (p := ⟨w.heap.size + 1, 4, none⟩) (Nat.le_refl _) (.slice (some ⟨w1.heap.size, 0, none⟩) 1 1)); have s0 := (hbS.cell (p := ⟨w.heap.size, 1, none⟩) (Nat.lt_succ_self _)).trans m0; have s1 := (hbS.cell (p := ⟨w.heap.size, 2, none⟩) (Nat.lt_succ_self _)).trans m1; have s2 := (hbS.cell (p := ⟨b, off, none⟩) (Nat.lt_succ_of_lt hbw1)).trans m2; have s3 := (hbS.cell (p := ⟨b', off', none⟩) (Nat.lt_succ_of_lt hbw1')).trans m3; have s4 := (hbS.cell (p := ⟨b', off' + 1, none⟩) (Nat.lt_succ_of_lt hbw1')).trans m4; have s5 := (hbS.cell (p := ⟨b', off' + 2, none⟩) (Nat.lt_succ_of_lt hbw1')).trans m5))
  have HB1 := Lib.hid hb1'
  go_wp2
  refine bodyPost_ret (v := .agg #[.int .i64 4, .int .i64 0, .string ls[0], .slice none 0 0, .slice (some ⟨w1.heap.size, 0, none⟩) 1 1]) (by simp [results, Try.results68, go_sem, d0, d1, d2, d3, d4]) rfl ⟨_, rfl, ?_, ?_⟩
  · have hS : ((((((w1.alloc (.cells #[.int .i64 (defVa ts[0]).kind, .int .i64 (defVa ts[0]).num, .string (defVa ts[0]).name, .slice T1 (defVa ts[0]).labels.length U1, .slice T2 (defVa ts[0]).args.length U2] 51)).setCell ⟨w.heap.size + 1, 0, none⟩ (.int .i64 4)).setCell ⟨w.heap.size + 1, 1, none⟩ (.int .i64 0)).setCell ⟨w.heap.size + 1, 2, none⟩ (.string ls[0])).setCell ⟨w.heap.size + 1, 3, none⟩ (.slice none 0 0)).setCell ⟨w.heap.size + 1, 4, none⟩ (.slice (some ⟨w1.heap.size, 0, none⟩) 1 1)).heap.size = (w1.alloc (.cells #[.int .i64 (defVa ts[0]).kind, .int .i64 (defVa ts[0]).num, .string (defVa ts[0]).name, .slice T1 (defVa ts[0]).labels.length U1, .slice T2 (defVa ts[0]).args.length U2] 51)).heap.size := by simp [World.setCell]
    have hk' : ∀ q, q ≠ w.heap.size + 1 → ((((((w1.alloc (.cells #[.int .i64 (defVa ts[0]).kind, .int .i64 (defVa ts[0]).num, .string (defVa ts[0]).name, .slice T1 (defVa ts[0]).labels.length U1, .slice T2 (defVa ts[0]).args.length U2] 51)).setCell ⟨w.heap.size + 1, 0, none⟩ (.int .i64 4)).setCell ⟨w.heap.size + 1, 1, none⟩ (.int .i64 0)).setCell ⟨w.heap.size + 1, 2, none⟩ (.string ls[0])).setCell ⟨w.heap.size + 1, 3, none⟩ (.slice none 0 0)).setCell ⟨w.heap.size + 1, 4, none⟩ (.slice (some ⟨w1.heap.size, 0, none⟩) 1 1)).heap[q]? = (w1.alloc (.cells #[.int .i64 (defVa ts[0]).kind, .int .i64 (defVa ts[0]).num, .string (defVa ts[0]).name, .slice T1 (defVa ts[0]).labels.length U1, .slice T2 (defVa ts[0]).args.length U2] 51)).heap[q]? := fun q hq => by
      rw [Below.heap_setCell _ _ _ _ hq, Below.heap_setCell _ _ _ _ hq, Below.heap_setCell _ _ _ _ hq, Below.heap_setCell _ _ _ _ hq, Below.heap_setCell _ _ _ _ hq]
    have hzz := HZ.out
    have hg := VGather.done (ts := [defVa ts[0]]) (A := some ⟨w1.heap.size, 0, none⟩) (c := 1) (vgather_one (base := w0.heap.size) (Nat.le_refl _) (by have := hb1'.size; omega) (HT1.out : VaIn w1 (Span w0.heap.size w1.heap.size) _ _)) (by simp [maxLen])
    have hD2 := hg.keep (w' := ((((((w1.alloc (.cells #[.int .i64 (defVa ts[0]).kind, .int .i64 (defVa ts[0]).num, .string (defVa ts[0]).name, .slice T1 (defVa ts[0]).labels.length U1, .slice T2 (defVa ts[0]).args.length U2] 51)).setCell ⟨w.heap.size + 1, 0, none⟩ (.int .i64 4)).setCell ⟨w.heap.size + 1, 1, none⟩ (.int .i64 0)).setCell ⟨w.heap.size + 1, 2, none⟩ (.string ls[0])).setCell ⟨w.heap.size + 1, 3, none⟩ (.slice none 0 0)).setCell ⟨w.heap.size + 1, 4, none⟩ (.slice (some ⟨w1.heap.size, 0, none⟩) 1 1))) fun b hb' _ => hk' b (by have := hb'.1; omega)
    have hA := hbA.size
    exact VaIn.of (t := .mk 4 0 ls[0] [] [defVa ts[0]]) (gl := 0) (S := Span w.heap.size ((((((w1.alloc (.cells #[.int .i64 (defVa ts[0]).kind, .int .i64 (defVa ts[0]).num, .string (defVa ts[0]).name, .slice T1 (defVa ts[0]).labels.length U1, .slice T2 (defVa ts[0]).args.length U2] 51)).setCell ⟨w.heap.size + 1, 0, none⟩ (.int .i64 4)).setCell ⟨w.heap.size + 1, 1, none⟩ (.int .i64 0)).setCell ⟨w.heap.size + 1, 2, none⟩ (.string ls[0])).setCell ⟨w.heap.size + 1, 3, none⟩ (.slice none 0 0)).setCell ⟨w.heap.size + 1, 4, none⟩ (.slice (some ⟨w1.heap.size, 0, none⟩) 1 1)).heap.size) (HN.out 0 h0l) (Nat.zero_le _) (fun i h => absurd h (by simp [Va.labels])) (.inl rfl) hD2 fun b hb' => ⟨⟨by have := hb'.1; omega, by rw [hS]; exact hb'.2⟩, by have := hb'.1; omega⟩
  · exact (((((hb0.trans (hbA.mono hb0.size)).setCell (by simp) _).setCell (by simp) _).setCell (by simp) _).setCell (by simp) _).setCell (by simp) _

set_option maxHeartbeats 1000000 in
theorem specDef_of (k0 : Int) (ls : List ByteArray) (ts : List Ty) (hall : ∀ i, (h : i < ts.length) → DefOne 68 ts[i]) : DefOne 68 (.mk k0 ls ts) := by
  intro v w hv hf hsz
  have hse := szTy_eq (.mk k0 ls ts)
  obtain ⟨L, lc, A, ac, rfl, hn, hz, hl, ha⟩ := hv.open
  simp only [Ty.kind, Ty.labels, Ty.args] at *
  obtain ⟨hnode, hf2⟩ := formTy_mk _ _ _ hf
  have hsub : ∀ i, (h : i < ts.length) → ∀ (v : Value) (W : World), TyAt W W.heap.size v ts[i] → Calls Try.prog 68 #[v] W (NewVa W (defVa ts[i])) := fun i h v W h2 => hall i h v W h2 (hf2 i h) (by have := szTy_part ts i h; omega)
  rcases nodeB_kind _ _ _ hnode with (rfl | rfl) | ⟨rfl | rfl, hlen, hpos⟩ | ⟨rfl, _⟩
  · rw [defVa_1]
    exact specDef_1 ls ts L A lc ac w
  · rw [defVa_2]
    exact specDef_2 ls ts L A lc ac w
  · rw [defVa_3]
    exact specDef_3 ls ts L A lc ac w hl hn (by omega) hz ha (by omega) hsub
  · have h0l : 0 < ls.length := by omega
    have h0t : 0 < ts.length := by omega
    rw [defVa_4]
    have e1 : ls.headD ⟨#[]⟩ = ls[0] := by
      cases ls with
      | nil => simp at h0l
      | cons a r => rfl
    have e2 : defHead ts = [defVa ts[0]] := by
      cases ts with
      | nil => simp at h0t
      | cons a r => rw [defHead]; rfl
    rw [e1, e2]
    exact specDef_4 ls ts L A lc ac w hl hz ha h0l h0t (hsub 0 h0t)
  · rw [defVa_5]
    exact specDef_5 ls ts L A lc ac w

theorem specDef_any (t : Ty) : DefOne 68 t := by
  induction t using Ty.ind with
  | h k ls ts ih => exact specDef_of k ls ts ih

/-- The default, or the zero value. -/
def defB (t : Ty) : Va := if validB t then defVa t else .mk 0 0 ⟨#[]⟩ [] []

set_option maxHeartbeats 1000000 in
theorem specDefault_any (t : Ty) (v : Value) (w : World) (hv : TyAt w w.heap.size v t) (hsz : szTy t ≤ 1048576) : Calls Try.prog 33 #[v] w (NewVa w (defB t)) := by
  have hv0 := hv
  have HV := Lib.hid (fun V W h => specValid_any t V W h hsz)
  have HD := Lib.hid (fun V W h hf => specDef_any t V W h hf hsz)
  obtain ⟨L, lc, A, ac, rfl, _⟩ := hv.open
  obtain ⟨hb0, p0, r0, hs0⟩ := boxes2 w 27 51 #[.int .i64 t.kind, .slice L t.labels.length lc, .slice A t.args.length ac] #[.int .i64 0, .int .i64 0, .string ⟨#[]⟩, .slice none 0 0, .slice none 0 0]
  have hv1 := hv0.up hb0
  clear hv hv0
  go_enter Try.func33, Try.ntmps33
  go_wp2_with fail
  generalize (w.alloc (.cells #[.int .i64 t.kind, .slice L t.labels.length lc, .slice A t.args.length ac] 27)).alloc (.cells #[.int .i64 0, .int .i64 0, .string ⟨#[]⟩, .slice none 0 0, .slice none 0 0] 51) = w0 at *
  refine (HV.out _ w0 hv1).mono ?_
  rintro e w1 ⟨rfl, hb1⟩
  have hb1' := hb0.trans (hb1.mono hb0.size)
  have r1 := r0.below hb1 r0.lt
  cases hvb : validB t
  · have hr := Lib.hid (show defB t = .mk 0 0 ⟨#[]⟩ [] [] by unfold defB; rw [hvb]; rfl)
    have d0 : w1.cell? ⟨w.heap.size + 1, 0, none⟩ = some (.int .i64 0) := r1.cell 0
    have e0 : w1.frozen? ⟨w.heap.size + 1, 0, none⟩ = false := r1.free 0
    have d1 : w1.cell? ⟨w.heap.size + 1, 1, none⟩ = some (.int .i64 0) := r1.cell 1
    have e1 : w1.frozen? ⟨w.heap.size + 1, 1, none⟩ = false := r1.free 1
    have d2 : w1.cell? ⟨w.heap.size + 1, 2, none⟩ = some (.string ⟨#[]⟩) := r1.cell 2
    have e2 : w1.frozen? ⟨w.heap.size + 1, 2, none⟩ = false := r1.free 2
    have d3 : w1.cell? ⟨w.heap.size + 1, 3, none⟩ = some (.slice none 0 0) := r1.cell 3
    have e3 : w1.frozen? ⟨w.heap.size + 1, 3, none⟩ = false := r1.free 3
    have d4 : w1.cell? ⟨w.heap.size + 1, 4, none⟩ = some (.slice none 0 0) := r1.cell 4
    have e4 : w1.frozen? ⟨w.heap.size + 1, 4, none⟩ = false := r1.free 4
    clear p0 r0 r1 hs0 hvb
    go_wp2
    refine bodyPost_ret (v := .agg #[.int .i64 0, .int .i64 0, .string ⟨#[]⟩, .slice none 0 0, .slice none 0 0]) (by simp [results, Try.results33, go_sem, d0, d1, d2, d3, d4]) rfl ⟨_, rfl, ?_, ?_⟩
    · rw [hr.out]
      exact VaIn.leaf _ _ _ _ _ _ _ _ _ (by simp [ByteArray.size])
    · exact ((((hb1'.setCell (by simp) _).setCell (by simp) _).setCell (by simp) _).setCell (by simp) _).setCell (by simp) _
  · have hr := Lib.hid (show defB t = defVa t by unfold defB; rw [hvb]; rfl)
    have hf : formTy t = true := by
      unfold validB at hvb
      simp only [Bool.and_eq_true] at hvb
      exact hvb.2
    have p1 := p0.below hb1 p0.lt
    have c0 : w1.cell? ⟨w.heap.size, 0, none⟩ = some (.int .i64 t.kind) := p1.cell 0
    have c1 : w1.cell? ⟨w.heap.size, 1, none⟩ = some (.slice L t.labels.length lc) := p1.cell 1
    have c2 : w1.cell? ⟨w.heap.size, 2, none⟩ = some (.slice A t.args.length ac) := p1.cell 2
    have HC := Lib.hid (HD.out _ w1 (hv1.up hb1) hf)
    have HZ := Lib.hid hs0
    have hs1 := hb1.size
    clear p0 r0 p1 hv1 hvb hf hs0
    go_wp2_with fail
    refine HC.out.mono ?_
    rintro e w2 ⟨v2, rfl, ht2, hb2⟩
    have HT2 := Lib.hid ht2
    obtain ⟨T1, U1, T2, U2, _, rfl, _⟩ := ht2.open
    have hb2' := hb1'.trans (hb2.mono hb1'.size)
    have r2 := r1.below hb2 r1.lt
    have d0 : w2.cell? ⟨w.heap.size + 1, 0, none⟩ = some (.int .i64 0) := r2.cell 0
    have e0 : w2.frozen? ⟨w.heap.size + 1, 0, none⟩ = false := r2.free 0
    have d1 : w2.cell? ⟨w.heap.size + 1, 1, none⟩ = some (.int .i64 0) := r2.cell 1
    have e1 : w2.frozen? ⟨w.heap.size + 1, 1, none⟩ = false := r2.free 1
    have d2 : w2.cell? ⟨w.heap.size + 1, 2, none⟩ = some (.string ⟨#[]⟩) := r2.cell 2
    have e2 : w2.frozen? ⟨w.heap.size + 1, 2, none⟩ = false := r2.free 2
    have d3 : w2.cell? ⟨w.heap.size + 1, 3, none⟩ = some (.slice none 0 0) := r2.cell 3
    have e3 : w2.frozen? ⟨w.heap.size + 1, 3, none⟩ = false := r2.free 3
    have d4 : w2.cell? ⟨w.heap.size + 1, 4, none⟩ = some (.slice none 0 0) := r2.cell 4
    have e4 : w2.frozen? ⟨w.heap.size + 1, 4, none⟩ = false := r2.free 4
    clear r1 r2 ht2 c0 c1 c2
    go_wp2
    refine bodyPost_ret (v := .agg #[.int .i64 (defVa t).kind, .int .i64 (defVa t).num, .string (defVa t).name, .slice T1 (defVa t).labels.length U1, .slice T2 (defVa t).args.length U2]) (by simp [results, Try.results33, go_sem, d0, d1, d2, d3, d4]) rfl ⟨_, rfl, ?_, ?_⟩
    · have hS : (((((w2.setCell ⟨w.heap.size + 1, 0, none⟩ (.int .i64 (defVa t).kind)).setCell ⟨w.heap.size + 1, 1, none⟩ (.int .i64 (defVa t).num)).setCell ⟨w.heap.size + 1, 2, none⟩ (.string (defVa t).name)).setCell ⟨w.heap.size + 1, 3, none⟩ (.slice T1 (defVa t).labels.length U1)).setCell ⟨w.heap.size + 1, 4, none⟩ (.slice T2 (defVa t).args.length U2)).heap.size = w2.heap.size := by simp [World.setCell]
      rw [hS, hr.out]
      have hzz := HZ.out
      refine (HT2.out.keep fun b hb' _ => ?_).wide fun b hb' => ⟨by have := hb'.1; omega, hb'.2⟩
      have hq : b ≠ w.heap.size + 1 := by have := hb'.1; omega
      rw [Below.heap_setCell _ _ _ _ hq, Below.heap_setCell _ _ _ _ hq, Below.heap_setCell _ _ _ _ hq, Below.heap_setCell _ _ _ _ hq, Below.heap_setCell _ _ _ _ hq]
    · exact ((((hb2'.setCell (by simp) _).setCell (by simp) _).setCell (by simp) _).setCell (by simp) _).setCell (by simp) _

end Go.Proofs.Ytinkanbaiflhdaa
