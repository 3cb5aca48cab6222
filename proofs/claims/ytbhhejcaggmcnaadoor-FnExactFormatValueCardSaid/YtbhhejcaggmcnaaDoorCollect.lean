/- slices.AppendSeq and slices.Collect of strings, over an iterator that turns nothing that lay there. -/
import Derived.Test.YtbhhejcaggmcnaaDoorRFun
import Derived.Test.YtbhhejcaggmcnaaDoorLabeled
import Derived.RangeFuncCalls
import Derived.RangeFuncLeaves
import Derived.Shelf.Abstract
import Derived.Shelf.RegionOpen
import Derived.WalkKit
import Derived.OwnWalkIn
import Derived.TacticsInMore
import Derived.LoopNIn
import Derived.LoopIn
import Derived.Maps.AppendAt
namespace Go.Proofs.YtbhhejcaggmcnaaDoor
open Go Go.RowKit
attribute [local go_sem] Oper.semAt_some

def noBlock : Nat → Prop := fun _ => False
theorem Turn.to_below {w w' : World} (h : Turn noBlock w w') : Below w.heap.size w w' := ⟨h.os, h.tape, h.output, h.size, fun i hi => h.block i hi (fun x => x)⟩
/-- An iterator over strings; fewer than N have come. -/
abbrev SeqStrs (n gf : Nat) (lb : Array Value) (S : List ByteArray → World → Prop) (N : Nat) (w : World) : Prop :=
  SeqTurn Fence.wide n Tryd.prog gf lb (fun x : ByteArray => #[.string x]) noBlock (fun pre _ _ _ => pre.length < N) S (fun _ _ => True) w

set_option maxHeartbeats 2000000 in
set_option maxRecDepth 100000 in
theorem appendSeq_any (gf : Nat) (lb : Array Value) (eg : ∀ args w, (callFunc gf args).run Tryd.prog w = .ok (.enter gf args) w) (S : List ByteArray → World → Prop) (N : Nat) (hN : N ≤ 1000000) (w : World) (hS : ∀ xs C C', S xs C → Below w.heap.size C C' → S xs C')
    (hseq : SeqStrs 6 gf lb S N w) :
    CallsIn Fence.wide 7 Tryd.prog 155 #[.slice none 0 0, .func (.func gf) #[] lb] w fun e w' => ∃ v ss, e = .returned v ∧ S ss w' ∧ ss.length ≤ N ∧ w'.ownsRow w.heap.size 9 1 v ss.length (strVals ss) ∧ Below w.heap.size w w' := by
  obtain ⟨i0, hi, hz0, hz1, hz2⟩ := info_parts infoString
  have hbb := (Below.refl w.heap.size w).alloc (Nat.le_refl _) (.cells #[.slice none 0 0] 22)
  have hbx := Whole1.new w 22 #[.slice none 0 0]
  have hsz : (w.alloc (.cells #[.slice none 0 0] 22)).heap.size = w.heap.size + 1 := by simp
  refine callsIn_of_wp_marks Tryd.func155 rfl trivial ?_ rfl
  simp only [Tryd.ntmps155, List.size_toArray, List.length_cons, List.length_nil, Nat.reduceAdd, Nat.reduceSub, Array.replicate_succ, Array.replicate_zero, List.push_toArray, List.append_toArray, List.nil_append, List.cons_append]
  gi_wp2
  generalize w.alloc (.cells #[.slice none 0 0] 22) = W0 at *
  refine rangeFunc_turn rfl (by decide) (gf := gf) (lb := lb) rfl trivial eg (fun _ => rfl) (X := noBlock) (fun _ h => h.elim) (w0 := w) hbb hseq
    (fun pre W => (∃ v, Whole1 W w.heap.size 22 #[v] ∧ W.ownsRow (w.heap.size + 3) 9 1 v pre.length (strVals pre)) ∧ pre.length ≤ N ∧ Below w.heap.size w W)
    (fun _ _ => False) ?hI (fun _ _ _ h _ => h) ?h0 ?round ?done ?stop
  case hI =>
    rintro pre A C ⟨⟨v, h1, h2⟩, h3, h4⟩ hsb
    rw [hsz] at hsb
    exact ⟨⟨v, (hsb.block h1.lt (by omega)).trans h1, own_keep1 h2 (fun g hg => hsb.block (h2.lt g hg).2 (by have := (h2.lt g hg).1; omega))⟩, h3, h4.trans (hsb.below (by omega) h4.size)⟩
  case h0 =>
    intro W hW hWs
    exact ⟨⟨_, (hW.block _ (by omega)).trans hbx, World.ownsRow_nil _ _ _ 1⟩, Nat.zero_le _, hbb.trans (hW.mono (by omega))⟩
  case round =>
    rintro pre x A B ⟨⟨v, h1, h2⟩, h3, h4⟩ hT hlt hAs
    have hB := hT.to_below
    have h1' := h1.below hB h1.lt
    have h2' := own_keep1 (w' := B) h2 (fun g hg => hB.block g (h2.lt g hg).2)
    have h4' := h4.trans (hB.mono h4.size)
    have hBs := hB.size
    gi_wp2
    refine ⟨Kept.refl _ _ _ _, fun B3 hsb => ?_⟩
    rw [hsz] at hsb
    have h1 := (hsb.block h1'.lt (by omega)).trans h1'
    have h1 : Whole1 B3 w.heap.size 22 #[v] := h1
    have h2 := own_keep1 (w' := B3) h2' (fun g hg => hsb.block (h2'.lt g hg).2 (by have := (h2'.lt g hg).1; omega))
    have h4 := h4'.trans (hsb.below (by omega) h4'.size)
    have h5 : w.heap.size + 3 ≤ B3.heap.size := by have := hsb.2; omega
    have c0 : B3.cell? ⟨w.heap.size, 0, none⟩ = some v := h1.cell 0
    have f0 : B3.frozen? ⟨w.heap.size, 0, none⟩ = false := h1.free 0
    have HR := Lib.hid h2
    have HB := Lib.hid h4
    have HX := Lib.hid h1
    clear h1' h2' h4' hB hT h1 h2 h4
    gi_wp2_with (gi_at_builtin; refine wpListIn_append_own _ rfl (.tmp 8) (.tmp 10) _ rfl (w.heap.size + 3) 9 i0 (.string ⟨#[]⟩) 1 16 Tryd.underlying22 hi hz0 hz1 hz2 rfl (by decide) _ _ _ rfl (HR.out.alloc _) ⟨B3.heap.size, 0, none⟩ 1 1 [.string x] rfl rfl (cellNew B3 9 _) (by intro u hu; simp at hu; subst hu; rfl) (by unfold maxLen; omega) (by omega) (by simp; omega) ?_; intro v1 w4 hown1 hg1 _; obtain ⟨g', cap', rfl⟩ := ownsRow_succ hown1; have hlow := (fun q hq => (HR.out.lt q hq).1); have hb4 : Below (w.heap.size + 3) B3 w4 := ((Below.refl (w.heap.size + 3) B3).alloc h5 _).grown hg1 (by simp; omega) (fun q e => hlow q e); have hx4 := HX.out.below hb4 (by omega); have c4 : w4.cell? ⟨w.heap.size, 0, none⟩ = some v := hx4.cell 0; have f4 : w4.frozen? ⟨w.heap.size, 0, none⟩ = false := hx4.free 0)
    have hset : ∀ g, g ≠ w.heap.size → (w4.setCell ⟨w.heap.size, 0, none⟩ (.slice (some ⟨g', 0, none⟩) (pre.length + 1) cap')).heap[g]? = w4.heap[g]? := fun g hg => Below.heap_setCell _ _ _ _ hg
    have hb4s := hb4.size
    refine ⟨⟨(hset _ (by omega)).trans (hb4.block _ (by omega)), (hset _ (by omega)).trans (hb4.block _ (by omega)), ?_⟩, ⟨_, hx4.set 0 _, ?_⟩, by simp; omega, ?_⟩
    · exact (hb4.mono (B' := w.heap.size) (by omega)).setCell (p := ⟨w.heap.size, 0, none⟩) (Nat.le_refl _) _
    · rw [List.length_append, List.length_singleton, show strVals (pre ++ [x]) = strVals pre ++ [.string x] by simp [strVals]]
      exact own_keep1 hown1 (fun g hg => hset g (by have := (hown1.lt g hg).1; omega))
    · exact (HB.out.trans (hb4.mono (B' := w.heap.size) (by omega))).setCell (p := ⟨w.heap.size, 0, none⟩) (Nat.le_refl _) _
  case done =>
    rintro xs A C C' ⟨⟨v, h1, h2⟩, h3, h4⟩ hT hSx hsb hAs hK
    have hB := hT.to_below
    rw [hsz] at hsb
    have h1 : Whole1 C' w.heap.size 22 #[v] := (hsb.block (h1.below hB h1.lt).lt (by omega)).trans (h1.below hB h1.lt)
    have h2' := own_keep1 (w' := C) h2 (fun g hg => hB.block g (h2.lt g hg).2)
    have h2 := own_keep1 (w' := C') h2' (fun g hg => hsb.block (h2'.lt g hg).2 (by have := (h2'.lt g hg).1; omega))
    have h4' := h4.trans (hB.mono h4.size)
    have h4 := h4'.trans (hsb.below (by omega) h4'.size)
    have c0 : C'.cell? ⟨w.heap.size, 0, none⟩ = some v := h1.cell 0
    gi_wp2
    refine ⟨by simp, .inl ⟨_, _, rfl, run_takeDeferred hK, ?_⟩⟩
    have hput := sameBut_put C' W0.heap.size (.deferred none)
    have hb2 : Below w.heap.size C' (C'.putObj W0.heap.size (.deferred none)) := hput.below (by omega) h4.size
    refine ⟨_, results_tmp rfl _ _ _, v, xs, rfl, ?_, h3, ?_, ?_⟩
    · exact hS _ _ _ hSx ((hsb.below (by omega) h4'.size).trans hb2)
    · exact own_keep1 (own_base h2 (by omega)) (fun g hg => hput.block (h2.lt g hg).2 (by have := (h2.lt g hg).1; omega))
    · exact h4.trans hb2
  case stop =>
    rintro pre A C C' h
    exact h.elim

set_option maxHeartbeats 1000000 in
theorem collect_any (gf : Nat) (lb : Array Value) (eg : ∀ args w, (callFunc gf args).run Tryd.prog w = .ok (.enter gf args) w) (S : List ByteArray → World → Prop) (N : Nat) (hN : N ≤ 1000000) (w : World) (hS : ∀ xs C C', S xs C → Below w.heap.size C C' → S xs C')
    (hseq : SeqStrs 6 gf lb S N w) :
    Calls Tryd.prog 128 #[.func (.func gf) #[] lb] w fun e w' => ∃ v ss, e = .returned v ∧ S ss w' ∧ ss.length ≤ N ∧ w'.ownsRow w.heap.size 9 1 v ss.length (strVals ss) ∧ Below w.heap.size w w' := by
  have HA := Lib.hid (callsIn_wide.1 (appendSeq_any gf lb eg S N hN w hS hseq))
  clear hseq hS
  go_enter Tryd.func128, Tryd.ntmps128
  go_wp2_with fail
  refine HA.out.mono ?_
  rintro e w1 ⟨v, ss, rfl, h1, h2, h3, h4⟩
  go_wp2
  go_ret
  exact ⟨v, ss, rfl, h1, h2, h3, h4⟩

end Go.Proofs.YtbhhejcaggmcnaaDoor
