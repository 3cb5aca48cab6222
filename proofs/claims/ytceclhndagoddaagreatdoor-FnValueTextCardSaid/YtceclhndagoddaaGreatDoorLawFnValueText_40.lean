/- Lemmas: RList. -/
import Derived.Test.YtceclhndagoddaaGreatDoorLawFnValueText_39
import Derived.Test.YtceclhndagoddaaGreatDoorLawFnValueText_36

namespace Go.Proofs.YtceclhndagoddaaGreatDoor
open Go Go.RowKit
set_option linter.unusedSimpArgs false
attribute [local go_sem] Oper.semAt_some
attribute [local go_sem ↓] Go.wp_at_zero Go.wp_at_succ

/-- What stands between two rounds: the result's boxes, the box of the node, its parts. -/
structure ListI (w : World) (pa pr b0 M : Nat) (pre : List (PV Va)) (W : World) : Prop where
  res : Whole1 W w.heap.size 27 #[.int .i64 0, .int .i64 0, .string ⟨#[]⟩, .slice none 0 0, .slice none 0 0]
  flag : Whole1 W (w.heap.size + 1) 4 #[.bool false]
  node : ∃ A ac xs vs lo hi, Whole1 W (w.heap.size + 1 + 1) 27 #[.int .i64 5, .int .i64 0, .string ⟨#[]⟩, .slice none 0 0, .slice A (reads pre).length ac] ∧ OwnVAt W b0 none 0 A ac (.mk 5 0 ⟨#[]⟩ [] (reads pre)) xs vs lo hi
  ok : ∀ q ∈ pre, q.ok = true
  nodes : nodes (fun t : Va => t) pre ≤ M
  turned : Turn (vrX pa pr) w W
theorem ListI.same {w A C : World} {b0 l M pa pr : Nat} {pre : List (PV Va)} (h : ListI w pa pr b0 M pre A) (hs : SameBut l A C) (hl : w.heap.size + 1 + 1 < l) (hb : l < b0) : ListI w pa pr b0 M pre C := by
  obtain ⟨A', ac, xs, vs, lo, hi, h1, h2⟩ := h.node
  have hsz := h1.lt
  exact ⟨(hs.block h.res.lt (by omega)).trans h.res, (hs.block h.flag.lt (by omega)).trans h.flag, ⟨A', ac, xs, vs, lo, hi, (hs.block h1.lt (by omega)).trans h1, h2.grown hs.1 hb⟩, h.ok, h.nodes, h.turned.below (hs.below (B := w.heap.size) (by omega) h.turned.size) (Nat.le_refl _)⟩
theorem ListI.turn {w A C : World} {b0 M pa pr : Nat} {pre : List (PV Va)} (h : ListI w pa pr b0 M pre A) (hT : Turn (vrX pa pr) A C) (h1 : pa < w.heap.size) (h2 : pr < w.heap.size) (hb : w.heap.size ≤ b0) : ListI w pa pr b0 M pre C := by
  obtain ⟨A', ac, xs, vs, lo, hi, h3, h4⟩ := h.node
  exact ⟨turn_stays hT h.res (by omega) (by omega), turn_stays hT h.flag (by omega) (by omega), ⟨A', ac, xs, vs, lo, hi, turn_stays hT h3 (by omega) (by omega), h4.keep hT.size
    (fun g hg hl => hT.block g hl (fun e => by have := (h4.row.lt g hg).1; rcases e with e | e <;> omega)) (fun g hg hl => hT.block g hl (fun e => by have := (h4.parts.own.lt g hg).1; rcases e with e | e <;> omega))
    (fun i hi' b hb' hl => hT.block b hl (fun e => by have := (h4.parts.low i hi').1; have := hb'.1; rcases e with e | e <;> omega))⟩, h.ok, h.nodes, h.turned.trans hT⟩
theorem ListI.more {w A C : World} {b0 M pa pr : Nat} {pre : List (PV Va)} (h : ListI w pa pr b0 M pre A) (hb : Below A.heap.size A C) : ListI w pa pr b0 M pre C := by
  obtain ⟨A', ac, xs, vs, lo, hi, h3, h4⟩ := h.node
  exact ⟨h.res.below hb h.res.lt, h.flag.below hb h.flag.lt, ⟨A', ac, xs, vs, lo, hi, h3.below hb h3.lt, h4.keep hb.size (fun g _ hl => hb.block g hl) (fun g _ hl => hb.block g hl) (fun _ _ b _ hl => hb.block b hl)⟩, h.ok, h.nodes, h.turned.below hb h.turned.size⟩
/-- What stands where a part was none. -/
structure ListX (w : World) (pa pr : Nat) (pre : List (PV Va)) (W : World) : Prop where
  res : Whole1 W w.heap.size 27 #[.int .i64 0, .int .i64 0, .string ⟨#[]⟩, .slice none 0 0, .slice none 0 0]
  flag : Whole1 W (w.heap.size + 1) 4 #[.bool false]
  ok : ∃ q ∈ pre, q.ok = false
  turned : Turn (vrX pa pr) w W
theorem ListX.same {w A C : World} {l pa pr : Nat} {pre : List (PV Va)} (h : ListX w pa pr pre A) (hs : SameBut l A C) (hl : w.heap.size + 1 + 1 < l) : ListX w pa pr pre C :=
  ⟨(hs.block h.res.lt (by omega)).trans h.res, (hs.block h.flag.lt (by omega)).trans h.flag, h.ok, h.turned.below (hs.below (B := w.heap.size) (by omega) h.turned.size) (Nat.le_refl _)⟩
theorem ListX.turn {w A C : World} {pa pr : Nat} {pre : List (PV Va)} (h : ListX w pa pr pre A) (hT : Turn (vrX pa pr) A C) (h1 : pa < w.heap.size) (h2 : pr < w.heap.size) : ListX w pa pr pre C :=
  ⟨turn_stays hT h.res (by omega) (by omega), turn_stays hT h.flag (by omega) (by omega), h.ok, h.turned.trans hT⟩

/-- The result's boxes are written. -/
theorem box_outs {w W : World} {pa pr : Nat} {u : Value} {z : Array Value} (hr : Whole1 W w.heap.size 27 z) (hz : z.size = 5) (hf : Whole1 W (w.heap.size + 1) 4 #[u]) (hT : Turn (vrX pa pr) w W) (a b c d e f : Value) :
    Whole1 ((((((W.setCell ⟨w.heap.size, 0, none⟩ a).setCell ⟨w.heap.size, 1, none⟩ b).setCell ⟨w.heap.size, 2, none⟩ c).setCell ⟨w.heap.size, 3, none⟩ d).setCell ⟨w.heap.size, 4, none⟩ e).setCell ⟨w.heap.size + 1, 0, none⟩ f) w.heap.size 27 #[a, b, c, d, e] ∧ Whole1 ((((((W.setCell ⟨w.heap.size, 0, none⟩ a).setCell ⟨w.heap.size, 1, none⟩ b).setCell ⟨w.heap.size, 2, none⟩ c).setCell ⟨w.heap.size, 3, none⟩ d).setCell ⟨w.heap.size, 4, none⟩ e).setCell ⟨w.heap.size + 1, 0, none⟩ f) (w.heap.size + 1) 4 #[f] ∧ Turn (vrX pa pr) w ((((((W.setCell ⟨w.heap.size, 0, none⟩ a).setCell ⟨w.heap.size, 1, none⟩ b).setCell ⟨w.heap.size, 2, none⟩ c).setCell ⟨w.heap.size, 3, none⟩ d).setCell ⟨w.heap.size, 4, none⟩ e).setCell ⟨w.heap.size + 1, 0, none⟩ f) ∧ (∀ g, g ≠ w.heap.size → g ≠ w.heap.size + 1 → ((((((W.setCell ⟨w.heap.size, 0, none⟩ a).setCell ⟨w.heap.size, 1, none⟩ b).setCell ⟨w.heap.size, 2, none⟩ c).setCell ⟨w.heap.size, 3, none⟩ d).setCell ⟨w.heap.size, 4, none⟩ e).setCell ⟨w.heap.size + 1, 0, none⟩ f).heap[g]? = W.heap[g]?) ∧ Below w.heap.size W ((((((W.setCell ⟨w.heap.size, 0, none⟩ a).setCell ⟨w.heap.size, 1, none⟩ b).setCell ⟨w.heap.size, 2, none⟩ c).setCell ⟨w.heap.size, 3, none⟩ d).setCell ⟨w.heap.size, 4, none⟩ e).setCell ⟨w.heap.size + 1, 0, none⟩ f) := by
  obtain ⟨z0, z1, z2, z3, z4, rfl⟩ : ∃ z0 z1 z2 z3 z4, z = #[z0, z1, z2, z3, z4] := by
    match z, hz with
    | ⟨[z0, z1, z2, z3, z4]⟩, _ => exact ⟨z0, z1, z2, z3, z4, rfl⟩
  have k5 : ∀ g, g ≠ w.heap.size → g ≠ w.heap.size + 1 → ((((((W.setCell ⟨w.heap.size, 0, none⟩ a).setCell ⟨w.heap.size, 1, none⟩ b).setCell ⟨w.heap.size, 2, none⟩ c).setCell ⟨w.heap.size, 3, none⟩ d).setCell ⟨w.heap.size, 4, none⟩ e).setCell ⟨w.heap.size + 1, 0, none⟩ f).heap[g]? = W.heap[g]? := fun g h1 h2 => (Below.heap_setCell _ _ _ _ h2).trans (set5_keep _ _ _ _ _ _ _ _ h1)
  have h5 := ((((hr.set 0 a).set 1 b).set 2 c).set 3 d).set 4 e
  have hf5 : Whole1 (((((W.setCell ⟨w.heap.size, 0, none⟩ a).setCell ⟨w.heap.size, 1, none⟩ b).setCell ⟨w.heap.size, 2, none⟩ c).setCell ⟨w.heap.size, 3, none⟩ d).setCell ⟨w.heap.size, 4, none⟩ e) (w.heap.size + 1) 4 #[u] := (set5_keep _ _ _ _ _ _ _ _ (by omega)).trans hf
  have hb5 := (set5_below W w.heap.size a b c d e).setCell (p := ⟨w.heap.size + 1, 0, none⟩) (by show w.heap.size ≤ w.heap.size + 1; omega) f
  exact ⟨(Below.heap_setCell _ _ _ _ (by show w.heap.size ≠ w.heap.size + 1; omega)).trans h5, hf5.set 0 f, hT.below hb5 (Nat.le_refl _), k5, hb5⟩
/-- .. and what the caller may turn. -/
theorem outs_belowX {w W C : World} {Y : Nat → Prop} {n : Nat} (hb : Below w.heap.size W C) (hk : ∀ g, g ≠ w.heap.size → g ≠ w.heap.size + 1 → C.heap[g]? = W.heap[g]?) (h1 : Y w.heap.size) (h2 : Y (w.heap.size + 1)) : BelowX Y n W C :=
  ⟨hb.os, hb.tape, hb.output, hb.size, fun i _ hy => hk i (fun e => hy (by rw [e]; exact h1)) (fun e => hy (by rw [e]; exact h2))⟩

theorem formVas_map : ∀ (us : List Va), formVas us = us.all formVa
  | [] => by rw [formVas]; rfl
  | t :: r => by rw [formVas, formVas_map r, List.all_cons]
theorem sizeVas_map : ∀ (us : List Va), sizeVas us = szs sizeVa us
  | [] => by rw [sizeVas]; rfl
  | t :: r => by rw [sizeVas, sizeVas_map r]; simp [szs]
/-- The last element of a row is filled. -/
theorem row_filled {w : World} {base g n cap : Nat} {e : TypeId} {v : Value} {xs : List Value} {z0 z1 z2 z3 z4 : Value} (hv : v = .slice (some ⟨g, 0, none⟩) (n + 1) cap) (h : w.ownsRow base e 5 v (n + 1) (xs ++ [z0, z1, z2, z3, z4])) (hl : xs.length = n * 5) (c0 c1 c2 c3 c4 : Value) :
    (((((w.setCell ⟨g, n * 5, none⟩ c0).setCell ⟨g, n * 5 + 1, none⟩ c1).setCell ⟨g, n * 5 + 2, none⟩ c2).setCell ⟨g, n * 5 + 3, none⟩ c3).setCell ⟨g, n * 5 + 4, none⟩ c4).ownsRow base e 5 (.slice (some ⟨g, 0, none⟩) (n + 1) cap) (n + 1) (xs ++ [c0, c1, c2, c3, c4]) ∧ w.grownBy (((((w.setCell ⟨g, n * 5, none⟩ c0).setCell ⟨g, n * 5 + 1, none⟩ c1).setCell ⟨g, n * 5 + 2, none⟩ c2).setCell ⟨g, n * 5 + 3, none⟩ c3).setCell ⟨g, n * 5 + 4, none⟩ c4) (some g) := by
  subst hv
  obtain ⟨a0, b0⟩ := h.stored (n * 5) c0
  obtain ⟨a1, b1⟩ := a0.stored (n * 5 + 1) c1
  obtain ⟨a2, b2⟩ := a1.stored (n * 5 + 2) c2
  obtain ⟨a3, b3⟩ := a2.stored (n * 5 + 3) c3
  obtain ⟨a4, b4⟩ := a3.stored (n * 5 + 4) c4
  refine ⟨?_, only_trans (only_trans (only_trans (only_trans b0 b1) b2) b3) b4⟩
  have e5 : (((((xs ++ [z0, z1, z2, z3, z4]).set (n * 5) c0).set (n * 5 + 1) c1).set (n * 5 + 2) c2).set (n * 5 + 3) c3).set (n * 5 + 4) c4 = xs ++ [c0, c1, c2, c3, c4] := by
    rw [← hl]
    simp
  rw [e5] at a4
  exact a4

theorem len_szs : ∀ (us : List Va), us.length ≤ szs (fun t => sizeVa t) us
  | [] => Nat.zero_le _
  | t :: r => by
    have h := len_szs r
    have h2 := sizeVa_eq t
    simp only [szs, List.map_cons, List.sum_cons, List.length_cons] at h ⊢
    omega
theorem list_bad {f : List UInt8 → Option (Va × List UInt8)} {l : List UInt8} {m : Nat} (h : BadL (fun t : Va => formVa t) (fun t => sizeVa t) m (rdSeqE f 93 l)) : BadV (m + 1) (rdList f l) := by
  intro T q hx
  unfold rdList at hx
  cases hs : rdSeqE f 93 l with
  | none => rw [hs] at hx; cases hx
  | some p =>
    obtain ⟨us, r⟩ := p
    rw [hs] at hx
    simp only [Option.some.injEq, Prod.mk.injEq] at hx
    obtain ⟨rfl, rfl⟩ := hx
    rcases h us r hs with h1 | h1 | h1
    · refine Or.inl ?_
      have h2 : us.all formVa = false := h1
      rw [formVa, formVas_map, h2]
      rfl
    · refine Or.inr (Or.inl ?_)
      have h2 : m < szs sizeVa us := h1
      rw [sizeVa, sizeVas_map]
      omega
    · exact Or.inr (Or.inr h1)
theorem list_some {f : List UInt8 → Option (Va × List UInt8)} {l r : List UInt8} {us : List Va} (h : rdSeqE f 93 l = some (us, r)) : rdList f l = some (.mk 5 0 ⟨#[]⟩ [] us, r) := by
  unfold rdList
  rw [h]

set_option maxHeartbeats 4000000 in
set_option maxRecDepth 100000 in
theorem readList_any (n M : Nat) (hM : M ≤ 1000) (H : ∀ m, m ≤ M → ValR n m) : ListR n M := by
  intro B w ps pa pr j s hv hs
  have hl1 := hv.lts
  have hl2 := hv.lta
  have hl3 := hv.ltr
  have hlb := hv.ls
  obtain ⟨hb0, z0, y0, x0, hs0⟩ := boxes3 w 27 4 27 #[.int .i64 0, .int .i64 0, .string ⟨#[]⟩, .slice none 0 0, .slice none 0 0] #[.bool false] #[.int .i64 5, .int .i64 0, .string ⟨#[]⟩, .slice none 0 0, .slice none 0 0]
  have HV0 := Lib.hid (hv.keep hb0)
  have HB0 := Lib.hid hb0
  have HZ0 := Lib.hid z0
  have HY0 := Lib.hid y0
  have HX0 := Lib.hid x0
  have hsz0 : (((w.alloc (.cells #[.int .i64 0, .int .i64 0, .string ⟨#[]⟩, .slice none 0 0, .slice none 0 0] 27)).alloc (.cells #[.bool false] 4)).alloc (.cells #[.int .i64 5, .int .i64 0, .string ⟨#[]⟩, .slice none 0 0, .slice none 0 0] 27)).heap.size = w.heap.size + 3 := by simp
  have HS0 := Lib.hid hsz0
  clear hb0 z0 y0 x0 hs0 hsz0
  refine (callsIn_wide (n := 7)).1 ?_
  refine callsIn_of_wp_marks Tryz.func45 rfl trivial ?_ rfl
  simp only [Tryz.ntmps45, List.size_toArray, List.length_cons, List.length_nil, Nat.reduceAdd, Nat.reduceSub, Array.replicate_succ, Array.replicate_zero, List.push_toArray, List.append_toArray, List.nil_append, List.cons_append]
  have hmf : ∀ (fn : Fn) (first cap : Array Value) (w : World), (Instr.makeFunc fn first cap).run Tryz.prog w = .ok (.func fn first cap) w := fun _ _ _ _ => rfl
  gi_wp2_with fail
  generalize (((w.alloc (.cells #[.int .i64 0, .int .i64 0, .string ⟨#[]⟩, .slice none 0 0, .slice none 0 0] 27)).alloc (.cells #[.bool false] 4)).alloc (.cells #[.int .i64 5, .int .i64 0, .string ⟨#[]⟩, .slice none 0 0, .slice none 0 0] 27)) = wa at *
  refine ⟨trivial, ?_⟩
  refine (callsIn_wide.2 (partsBefore_any pr 93 77 wa)).mono ?_
  rintro e w1 ⟨t1, t2, t3, rfl, rfl⟩
  obtain ⟨hb1, r1, r2, r3, hs1⟩ := boxes3 wa t1 t2 t3 #[.pointer (some ⟨pr, 0, none⟩)] #[.string ⟨#[93]⟩] #[.func (.func 77) #[.pointer (some ⟨pr, 0, none⟩)] #[]]
  have HV1 := Lib.hid (HV0.out.keep hb1)
  have HZ1 := Lib.hid (HZ0.out.below hb1 HZ0.out.lt)
  have HY1 := Lib.hid (HY0.out.below hb1 HY0.out.lt)
  have HX1 := Lib.hid (HX0.out.below hb1 HX0.out.lt)
  have HB1 := Lib.hid (HB0.out.trans (hb1.mono HB0.out.size))
  have HR1 := Lib.hid (And.intro r1 (And.intro r2 r3))
  have hsz1 : (((wa.alloc (.cells #[.pointer (some ⟨pr, 0, none⟩)] t1)).alloc (.cells #[.string ⟨#[93]⟩] t2)).alloc (.cells #[.func (.func 77) #[.pointer (some ⟨pr, 0, none⟩)] #[]] t3)).heap.size = w.heap.size + 6 := by have := HS0.out; simp; omega
  have HS1 := Lib.hid hsz1
  clear hb1 r1 r2 r3 hs1 hsz1 HB0 HZ0 HY0 HX0 HV0
  gi_wp2
  generalize (((wa.alloc (.cells #[.pointer (some ⟨pr, 0, none⟩)] t1)).alloc (.cells #[.string ⟨#[93]⟩] t2)).alloc (.cells #[.func (.func 77) #[.pointer (some ⟨pr, 0, none⟩)] #[]] t3)) = wb at *
  have hsz0 := HS0.out
  have hsz1 := HS1.out
  have hseq := iterElem_seq n M H B wb ps pa pr j s HV1.out hs 93 (by decide) (by decide) wa.heap.size (wa.heap.size + 1) (wa.heap.size + 1 + 1) t1 t2 t3 HR1.out.1 HR1.out.2.1 HR1.out.2.2 (by omega) (by omega) (by omega)
    (fun i => i = w.heap.size ∨ i = w.heap.size + 1 ∨ i = w.heap.size + 1 + 1) (fun i hi => by rcases hi with rfl | rfl | rfl <;> (refine ⟨?_, ?_, ?_, ?_⟩ <;> omega)) ⟨by omega, by omega, by omega⟩
  refine rangeFunc_turnY (F := Fence.wide) (n := 7) (gf := 92) (lb := #[.pointer (some ⟨wa.heap.size, 0, none⟩), .pointer (some ⟨wa.heap.size + 1, 0, none⟩), .pointer (some ⟨wa.heap.size + 1 + 1, 0, none⟩)]) rfl (by decide) rfl trivial (enters_of Tryz.func92 (by kernel_rfl) rfl) (fun _ => rfl) (X := vrX pa pr) (fun i hi => by rcases hi with rfl | rfl <;> omega) (w0 := wb) (Below.refl _ _) hseq
    (ListI w pa pr (wb.heap.size + 2) M) (ListX w pa pr) ?hI ?hIx ?h0 ?round ?done ?stop
  case hI => exact fun pre A C h hsb => h.same hsb (by omega) (by omega)
  case hIx => exact fun pre A C h hsb => h.same hsb (by omega)
  case h0 =>
    intro W hW hWs
    obtain ⟨xs, vs, lo, hi, hG⟩ := VGather.start W (wb.heap.size + 2) []
    exact ⟨HZ1.out.below hW HZ1.out.lt, HY1.out.below hW HY1.out.lt, ⟨none, 0, xs, vs, lo, hi, HX1.out.below hW HX1.out.lt, (by decide), fun i h => absurd h (by simp [Va.labels]), Nat.zero_le _, World.ownsRow_nil _ _ _ 1, hG, fun gl h => by cases h⟩, fun q hq => (by cases hq), Nat.zero_le _, (Turn.of_below HB1.out).below hW (by omega)⟩
  case round =>
    rintro pre x A B1 hI hT hPx hsA
    obtain ⟨A', ac, xs, vs, lo, hi, h3, h4⟩ := hI.node
    have HH3 := Lib.hid (turn_stays hT h3 (by omega) (by omega))
    have HH4 := Lib.hid (h4.keep hT.size (fun g hg hl => hT.block g hl (fun e => by have := (h4.row.lt g hg).1; rcases e with e | e <;> omega)) (fun g hg hl => hT.block g hl (fun e => by have := (h4.parts.own.lt g hg).1; rcases e with e | e <;> omega))
      (fun i hi' b hb' hl => hT.block b hl (fun e => by have := (h4.parts.low i hi').1; have := hb'.1; rcases e with e | e <;> omega)))
    have HAL : Hid (∀ g, A' = some ⟨g, 0, none⟩ → g < A.heap.size) := Lib.hid fun g hg => (h4.parts.own.lt g (by rw [hg]; rfl)).2
    have HPL : Hid (∀ i, i < (reads pre).length → hi i ≤ A.heap.size) := Lib.hid fun i hi' => (h4.parts.low i hi').2
    clear h3 h4
    have hIB := hI.turn hT hl2 hl3 (by omega)
    have hBs := hT.size
    have HI := Lib.hid hIB
    have HPX := Lib.hid hPx
    have HZS := Lib.hid (And.intro hsz0 hsz1)
    clear hIB hPx hsz0 hsz1 hseq hI hT
    obtain ⟨l0, k0, n0, nm, L, nl, lc, A0, na, ac0, ok, bb⟩ := x
    simp only [PV.enc]
    gi_wp2
    have hb2 := (Below.refl B1.heap.size B1).alloc (Nat.le_refl _) (.cells #[.string l0, .int .i64 k0, .int .i64 n0, .string nm, .slice L nl lc, .slice A0 na ac0] 106)
    have hq2 := Whole1.new B1 106 #[.string l0, .int .i64 k0, .int .i64 n0, .string nm, .slice L nl lc, .slice A0 na ac0]
    have hz2 : (B1.alloc (.cells #[.string l0, .int .i64 k0, .int .i64 n0, .string nm, .slice L nl lc, .slice A0 na ac0] 106)).heap.size = B1.heap.size + 1 := by simp
    have HI2 := Lib.hid (HI.out.more hb2)
    have hH3 := HH3.out.below hb2 HH3.out.lt
    have hH4 := HH4.out.keep hb2.size (fun g _ hl => hb2.block g hl) (fun g _ hl => hb2.block g hl) (fun _ _ b _ hl => hb2.block b hl)
    generalize B1.alloc (.cells #[.string l0, .int .i64 k0, .int .i64 n0, .string nm, .slice L nl lc, .slice A0 na ac0] 106) = B2 at *
    have hz0 := HZS.out.1
    have hz1 := HZS.out.2
    refine ⟨⟨hb2.block _ (by omega), hb2.block _ (by omega), BelowX.of (hb2.mono (by omega))⟩, fun B3 hsb => ?_⟩
    have HI3 := Lib.hid (HI2.out.same hsb (by omega) (by omega))
    have HQ3 : Hid (Whole1 B3 B1.heap.size 106 #[.string l0, .int .i64 k0, .int .i64 n0, .string nm, .slice L nl lc, .slice A0 na ac0]) := Lib.hid ((hsb.block (i := B1.heap.size) (by omega) (by omega)).trans hq2)
    have hB3 : B1.heap.size < B3.heap.size := by have := hsb.2; omega
    have HN3 : Hid (Whole1 B3 (w.heap.size + 1 + 1) 27 #[.int .i64 5, .int .i64 0, .string ⟨#[]⟩, .slice none 0 0, .slice A' (reads pre).length ac]) := Lib.hid ((hsb.block hH3.lt (by omega)).trans hH3)
    have HO3 := Lib.hid (hH4.grown hsb.1 (by omega))
    have HSB := Lib.hid (And.intro hb2 hsb)
    clear hH3 hH4 HH3 HH4
    clear HI2 hsb hb2 hq2 hz2 HI hz0 hz1
    cases ok with
    | false =>
      clear HPX
      have d0 : B3.cell? ⟨w.heap.size, 0, none⟩ = some (.int .i64 0) := HI3.out.res.cell 0
      have f0 : B3.frozen? ⟨w.heap.size, 0, none⟩ = false := HI3.out.res.free 0
      have d1 : B3.cell? ⟨w.heap.size, 1, none⟩ = some (.int .i64 0) := HI3.out.res.cell 1
      have f1 : B3.frozen? ⟨w.heap.size, 1, none⟩ = false := HI3.out.res.free 1
      have d2 : B3.cell? ⟨w.heap.size, 2, none⟩ = some (.string ⟨#[]⟩) := HI3.out.res.cell 2
      have f2 : B3.frozen? ⟨w.heap.size, 2, none⟩ = false := HI3.out.res.free 2
      have d3 : B3.cell? ⟨w.heap.size, 3, none⟩ = some (.slice none 0 0) := HI3.out.res.cell 3
      have f3 : B3.frozen? ⟨w.heap.size, 3, none⟩ = false := HI3.out.res.free 3
      have d4 : B3.cell? ⟨w.heap.size, 4, none⟩ = some (.slice none 0 0) := HI3.out.res.cell 4
      have f4 : B3.frozen? ⟨w.heap.size, 4, none⟩ = false := HI3.out.res.free 4
      have e0 : B3.cell? ⟨w.heap.size + 1, 0, none⟩ = some (.bool false) := HI3.out.flag.cell 0
      have g0 : B3.frozen? ⟨w.heap.size + 1, 0, none⟩ = false := HI3.out.flag.free 0
      gi_wp2
      obtain ⟨o1, o2, o3, o4, o5⟩ := box_outs HI3.out.res rfl HI3.out.flag HI3.out.turned (.int .i64 0) (.int .i64 0) (.string ⟨#[]⟩) (.slice none 0 0) (.slice none 0 0) (.bool false)
      have hz0 := HZS.out.1
      have hz1 := HZS.out.2
      exact ⟨⟨o4 _ (by omega) (by omega), o4 _ (by omega) (by omega), outs_belowX o5 o4 (Or.inl rfl) (Or.inr (Or.inl rfl))⟩, ⟨o1, o2, ⟨_, List.mem_append_right _ (List.mem_singleton.2 rfl), rfl⟩, o3⟩⟩
    | true =>
      gi_wp2
      obtain ⟨u, hbu, hlu, hsu, hnd, hO⟩ := HPX.out rfl
      simp only at hbu hnd
      subst hbu
      have HND := Lib.hid hnd
      have HU := Lib.hid hO.owned
      clear hlu hsu hnd hO HPX
      refine region_round (by kernel_rfl) (by kernel_rfl) (fun h => by obtain ⟨_, _, h⟩ := h; exact h) (any_of_until (S := (fun x' : World => x'.cell? ⟨w.heap.size + 1 + 1, 4, none⟩ = some (.slice A' (reads pre).length ac) ∧ x'.cell? ⟨B1.heap.size, 1, none⟩ = some (.int .i64 k0) ∧ x'.cell? ⟨B1.heap.size, 2, none⟩ = some (.int .i64 n0) ∧ x'.cell? ⟨B1.heap.size, 3, none⟩ = some (.string nm) ∧ x'.cell? ⟨B1.heap.size, 4, none⟩ = some (.slice L nl lc) ∧ x'.cell? ⟨B1.heap.size, 5, none⟩ = some (.slice A0 na ac0))) (ks := [6]) _ _ _ _ ?_)
      have hbd : Below B3.heap.size B3 B3.drew := (Below.refl B3.heap.size B3).drew
      have HN4 := Lib.hid (HN3.out.below hbd HN3.out.lt)
      have HQ4 := Lib.hid (HQ3.out.below hbd HQ3.out.lt)
      have HO4 := Lib.hid (HO3.out.keep hbd.size (fun g _ hl => hbd.block g hl) (fun g _ hl => hbd.block g hl) (fun _ _ b _ hl => hbd.block b hl))
      have HD4 := Lib.hid hbd
      have hlen : (reads pre).length ≤ 1000 := by have h1 := HI3.out.nodes; have h2 := len_szs (reads pre); exact Nat.le_trans h2 (Nat.le_trans h1 hM)
      have hsz4 : B1.heap.size < B3.drew.heap.size := hB3
      have HB3 := Lib.hid hB3
      clear HN3 HQ3 HO3 hbd hB3
      generalize B3.drew = B4 at *
      have HS := Lib.hid (show (fun x' : World => x'.cell? ⟨w.heap.size + 1 + 1, 4, none⟩ = some (.slice A' (reads pre).length ac) ∧ x'.cell? ⟨B1.heap.size, 1, none⟩ = some (.int .i64 k0) ∧ x'.cell? ⟨B1.heap.size, 2, none⟩ = some (.int .i64 n0) ∧ x'.cell? ⟨B1.heap.size, 3, none⟩ = some (.string nm) ∧ x'.cell? ⟨B1.heap.size, 4, none⟩ = some (.slice L nl lc) ∧ x'.cell? ⟨B1.heap.size, 5, none⟩ = some (.slice A0 na ac0)) B4 from ⟨HN4.out.cell 4, HQ4.out.cell 1, HQ4.out.cell 2, HQ4.out.cell 3, HQ4.out.cell 4, HQ4.out.cell 5⟩)
      refine take_any (i := 0) (v := .pointer (some ⟨w.heap.size + 1 + 1, 4, none⟩)) rfl (by kernel_rfl) (by kernel_rfl) (by kernel_rfl) (by kernel_rfl) (fun _ _ _ h => h) (Or.inr HS.out) ⟨by rfl, fun x => by go_simp⟩ ?_
      (try simp only [Act.put, List.setIfInBounds_toArray, List.set_cons_zero, List.set_cons_succ])
      refine take_any (i := 2) (v := .pointer (some ⟨B1.heap.size, 1, none⟩)) rfl (by kernel_rfl) (by kernel_rfl) (by kernel_rfl) (by kernel_rfl) (fun _ _ _ h => h) (Or.inr HS.out) ⟨by rfl, fun x => by go_simp⟩ ?_
      (try simp only [Act.put, List.setIfInBounds_toArray, List.set_cons_zero, List.set_cons_succ])
      refine take_held (i := 1) 6 (v := .slice A' (reads pre).length ac) rfl (by kernel_rfl) (by kernel_rfl) (by kernel_rfl) (by kernel_rfl) (by kernel_rfl) (by kernel_rfl) (by kernel_rfl) (fun _ _ _ h => h) HS.out ⟨by rfl, fun x hSw => by obtain ⟨_, _, _, _, _, _⟩ := hSw; go_simp⟩ ?_
      (try simp only [Act.put, List.setIfInBounds_toArray, List.set_cons_zero, List.set_cons_succ])
      refine take_held (i := 3) 6 (v := .agg #[.int .i64 k0, .int .i64 n0, .string nm, .slice L nl lc, .slice A0 na ac0]) rfl (by kernel_rfl) (by kernel_rfl) (by kernel_rfl) (by kernel_rfl) (by kernel_rfl) (by kernel_rfl) (by kernel_rfl) (fun _ _ _ h => h) HS.out ⟨by rfl, fun x hSw => by obtain ⟨_, _, _, _, _, _⟩ := hSw; go_simp⟩ ?_
      (try simp only [Act.put, List.setIfInBounds_toArray, List.set_cons_zero, List.set_cons_succ])
      refine take_any (i := 4) (v := .int .i64 ((reads pre).length : Int)) rfl (by kernel_rfl) (by kernel_rfl) (by kernel_rfl) (by kernel_rfl) (fun _ _ _ h => h) (Or.inr HS.out) ⟨by rfl, fun x => by go_simp⟩ ?_
      (try simp only [Act.put, List.setIfInBounds_toArray, List.set_cons_zero, List.set_cons_succ])
      clear HS
      refine turns (rs := [5]) (by kernel_rfl) (by rfl) ?_
      refine Turns.cons rfl (fun K hK => ?_) Turns.nil
      go_simp
      have hb5 := (Below.refl B4.heap.size B4).alloc (Nat.le_refl _) (.cells #[.int .i64 0, .int .i64 0, .string ⟨#[]⟩, .slice none 0 0, .slice none 0 0] 27)
      have HN5 := Lib.hid (HN4.out.below hb5 HN4.out.lt)
      have HQ5 := Lib.hid (HQ4.out.below hb5 HQ4.out.lt)
      have HO5 := Lib.hid (HO4.out.keep hb5.size (fun g _ hl => hb5.block g hl) (fun g _ hl => hb5.block g hl) (fun _ _ b _ hl => hb5.block b hl))
      have HZ5 := Lib.hid (Whole1.new B4 27 #[.int .i64 0, .int .i64 0, .string ⟨#[]⟩, .slice none 0 0, .slice none 0 0])
      have HB5 := Lib.hid hb5
      clear hb5 HN4 HQ4 HO4
      generalize B4.alloc (.cells #[.int .i64 0, .int .i64 0, .string ⟨#[]⟩, .slice none 0 0, .slice none 0 0] 27) = B5 at *
      refine hK.out _ _ (Or.inr ⟨HN5.out.cell 4, HQ5.out.cell 1, HQ5.out.cell 2, HQ5.out.cell 3, HQ5.out.cell 4, HQ5.out.cell 5⟩) ?_
      clear hK K
      (try simp only [Act.put, List.setIfInBounds_toArray, List.set_cons_zero, List.set_cons_succ])
      refine turns (rs := [6]) (by kernel_rfl) (by rfl) ?_
      refine Turns.cons (o := { dst := some 23, op := .call { callee := .builtin .append, args := #[.tmp 18, .tmp 22], argTypes := #[25, 25] }, type := 25, pos := "l06_valuetext.go:120", after := #[{ on := 1, ground := .data }, { on := 5, ground := .data }, { on := 0, ground := .phase }, { on := 1, ground := .phase }, { on := 2, ground := .phase }, { on := 3, ground := .phase }, { on := 4, ground := .phase }, { on := 5, ground := .phase }], guard := none }) rfl (fun K hK => ?_) Turns.nil
      obtain ⟨i1, hi1, hy0, hy1, hy2⟩ := info_parts infoValue
      have hz5 := HZ5.out.lt
      have hs45 := HB5.out.size
      have hz0 := HZS.out.1
      have hz1 := HZS.out.2
      refine step_append_lies B5 (by rfl) (.tmp 18) (.tmp 22) _ (by rfl) (wb.heap.size + 2) 27 i1 (.agg #[.int .i64 0, .int .i64 0, .string ⟨#[]⟩, .slice none 0 0, .slice none 0 0]) 5 80 Tryz.underlying25 hi1 hy0 hy1 hy2 rfl (by decide) _ (reads pre).length xs (by rfl) HO5.out.parts.own ⟨B4.heap.size, 0, none⟩ 1 1 [.int .i64 0, .int .i64 0, .string ⟨#[]⟩, .slice none 0 0, .slice none 0 0] (by rfl) rfl
        (World.news_of_block (cs := #[.int .i64 0, .int .i64 0, .string ⟨#[]⟩, .slice none 0 0, .slice none 0 0]) HZ5.out) (fun u hu => by simp at hu; rcases hu with rfl | rfl | rfl <;> rfl) (by omega) (by unfold maxLen; omega) (by omega) (by omega) B5.heap.size rfl (fun g cap B6 hown hgr hat hgl => ?_)
      have hne : ∀ q, q < wb.heap.size + 2 → (Value.slice A' (reads pre).length ac).ownBlock ≠ some q := fun q hq e => by have := (HO5.out.parts.own.lt q e).1; omega
      have hxl : xs.length = (reads pre).length * 5 := HO5.out.parts.own.1
      have HN6 : Hid (Whole1 B6 (w.heap.size + 1 + 1) 27 #[.int .i64 5, .int .i64 0, .string ⟨#[]⟩, .slice none 0 0, .slice A' (reads pre).length ac]) := Lib.hid ((hgr.block _ HN5.out.lt (fun e => hne _ (by omega) e.symm)).trans HN5.out)
      have HGR := Lib.hid hgr
      have HAT := Lib.hid hat
      have HNE := Lib.hid hne
      refine hK.out _ _ (Or.inl (up_of (by kernel_rfl))) ?_
      clear hK K hgr hat hne
      (try simp only [Act.put, List.setIfInBounds_toArray, List.set_cons_zero, List.set_cons_succ])
      have FIN : Hid (∀ C : World, Whole1 C (w.heap.size + 1 + 1) 27 #[.int .i64 5, .int .i64 0, .string ⟨#[]⟩, .slice none 0 0, .slice (some ⟨g, 0, none⟩) ((reads pre).length + 1) cap] → C.ownsRow (wb.heap.size + 2) 27 5 (.slice (some ⟨g, 0, none⟩) ((reads pre).length + 1) cap) ((reads pre).length + 1) (xs ++ [.int .i64 k0, .int .i64 n0, .string nm, .slice L nl lc, .slice A0 na ac0]) → (C.os = B6.os ∧ C.tape = B6.tape ∧ C.output = B6.output ∧ B6.heap.size ≤ C.heap.size) → (∀ q, q < B6.heap.size → q ≠ w.heap.size + 1 + 1 → q ≠ g → C.heap[q]? = B6.heap[q]?) → KeptY (fun i => i = w.heap.size ∨ i = w.heap.size + 1 ∨ i = w.heap.size + 1 + 1) wb.heap.size wb.heap.size (wb.heap.size + 1) B3 C ∧ ListI w pa pr (wb.heap.size + 2) M (pre ++ [(⟨l0, k0, n0, nm, L, nl, lc, A0, na, ac0, true, some u⟩ : PV Va)]) C) := Lib.hid (by
        intro C hbx hrow hc hkp
        obtain ⟨c1, c2, c3, c4⟩ := hc
        have hglow : wb.heap.size + 2 ≤ g := (hrow.lt g rfl).1
        have hs34 := HD4.out.size
        have hb13 := HB3.out
        have hs56 := HGR.out.size
        have low : ∀ q, q < wb.heap.size + 2 → q ≠ w.heap.size + 1 + 1 → C.heap[q]? = B3.heap[q]? := fun q hq h1 =>
          (hkp q (by omega) h1 (by omega)).trans (((HGR.out.block q (by omega) (fun e => HNE.out q hq e.symm)).trans (HB5.out.block q (by omega))).trans (HD4.out.block q (by omega)))
        have hbel : Below w.heap.size B3 C := ⟨c1.trans (HGR.out.os.trans (HB5.out.os.trans HD4.out.os)), c2.trans (HGR.out.tape.trans (HB5.out.tape.trans HD4.out.tape)), c3.trans (HGR.out.output.trans (HB5.out.output.trans HD4.out.output)), by omega, fun q hq => low q (by omega) (by omega)⟩
        refine ⟨⟨low _ (by omega) (by omega), low _ (by omega) (by omega), ⟨hbel.os, hbel.tape, hbel.output, hbel.size, fun q hq hy => low q (by omega) (fun e => hy (Or.inr (Or.inr e)))⟩⟩, ?_⟩
        have hb2 := HSB.out.1
        have hsb := HSB.out.2
        have hs12 := hb2.size
        have hu5 : VaIn B5 (Span A.heap.size B1.heap.size) (.agg #[.int .i64 k0, .int .i64 n0, .string nm, .slice L nl lc, .slice A0 na ac0]) u := HU.out.keep fun q hq _ => by
          have h1 := hq.1
          have h2 := hq.2
          exact (HB5.out.block q (by omega)).trans ((HD4.out.block q (by omega)).trans ((hsb.block (by omega) (by omega)).trans (hb2.block q h2)))
        have hA5 := HO5.out.arg2 (w3 := C) (lo0 := A.heap.size) (hi0 := B1.heap.size) (g := g) (cap := cap) u (by omega) (by omega) (by unfold maxLen; show (reads pre).length + 1 ≤ _; omega) hu5 HPL.out (fun q hq => by cases hq) (fun q hq hs => by have := HAL.out q hq; have := hs.1; omega) hrow (by omega)
          (fun q hb hq ho => (hkp q (by omega) (by omega) (fun e => by subst e; rcases HAT.out with h | h; exact ho h; omega)).trans (HGR.out.block q hq (fun e => ho e.symm))) (HAT.out.imp id (fun e => by omega))
        have hnode : ∃ A2 ac2 xs2 vs2 lo2 hi2, Whole1 C (w.heap.size + 1 + 1) 27 #[.int .i64 5, .int .i64 0, .string ⟨#[]⟩, .slice none 0 0, .slice A2 (reads pre ++ [u]).length ac2] ∧ OwnVAt C (wb.heap.size + 2) none 0 A2 ac2 (.mk 5 0 ⟨#[]⟩ [] (reads pre ++ [u])) xs2 vs2 lo2 hi2 := ⟨some ⟨g, 0, none⟩, cap, _, _, _, _, (by rw [List.length_append]; exact hbx), hA5⟩
        rw [← reads_snoc pre (⟨l0, k0, n0, nm, L, nl, lc, A0, na, ac0, true, some u⟩ : PV Va) u rfl] at hnode
        exact ⟨(low _ (by omega) (by omega)).trans HI3.out.res, (low _ (by omega) (by omega)).trans HI3.out.flag, hnode, ok_snoc HI3.out.ok rfl, HND.out, HI3.out.turned.below hbel (Nat.le_refl _)⟩)
      have hglow : w.heap.size + 1 + 1 < g := by have := (hown.lt g rfl).1; omega
      have HOW := Lib.hid hown
      have HXL := Lib.hid hxl
      clear HI3 HSB HU HND HPL HAL HB5 HD4 HGR HAT HNE HQ5 HO5 HZ5 HS0 HS1 HZS hz0 hz1 hs45 hz5 hown
      have hi0 : (0 : Int) ≤ ((reads pre).length : Int) := by omega
      have hi2 : ((reads pre).length : Int) < (((reads pre).length + 1 : Nat) : Int) := by omega
      have hi3 : ((reads pre).length : Int) < ((reads pre).length : Int) + 1 := by omega
      refine take_any (i := 7) (v := .pointer (some ⟨g, (reads pre).length * 5, none⟩)) rfl (by kernel_rfl) (by kernel_rfl) (by kernel_rfl) (by kernel_rfl) (fun _ _ _ h => h) (Or.inl (up_of (by kernel_rfl))) ⟨by rfl, fun x => by go_simp⟩ ?_
      (try simp only [Act.put, List.setIfInBounds_toArray, List.set_cons_zero, List.set_cons_succ])
      refine take_any (i := 9) (v := .pointer (some ⟨w.heap.size + 1 + 1, 4, none⟩)) rfl (by kernel_rfl) (by kernel_rfl) (by kernel_rfl) (by kernel_rfl) (fun _ _ _ h => h) (Or.inl (up_of (by kernel_rfl))) ⟨by rfl, fun x => by go_simp⟩ ?_
      (try simp only [Act.put, List.setIfInBounds_toArray, List.set_cons_zero, List.set_cons_succ])
      refine turns (rs := [8, 10]) (by kernel_rfl) (by rfl) ?_
      refine Turns.cons rfl (fun K hK => ?_) ?_
      · have hxl := HXL.out
        have hrow := HOW.out
        have m0 : B6.cell? ⟨g, (reads pre).length * 5, none⟩ = some (.int .i64 0) := by rw [hrow.cellAt _ (by omega), List.getElem?_append_right (by omega), hxl]; simp
        have r0 : B6.frozen? ⟨g, (reads pre).length * 5, none⟩ = false := hrow.frozenAt _
        have m1 : B6.cell? ⟨g, (reads pre).length * 5 + 1, none⟩ = some (.int .i64 0) := by rw [hrow.cellAt _ (by omega), List.getElem?_append_right (by omega), hxl]; simp
        have r1 : B6.frozen? ⟨g, (reads pre).length * 5 + 1, none⟩ = false := hrow.frozenAt _
        have m2 : B6.cell? ⟨g, (reads pre).length * 5 + 2, none⟩ = some (.string ⟨#[]⟩) := by rw [hrow.cellAt _ (by omega), List.getElem?_append_right (by omega), hxl]; simp
        have r2 : B6.frozen? ⟨g, (reads pre).length * 5 + 2, none⟩ = false := hrow.frozenAt _
        have m3 : B6.cell? ⟨g, (reads pre).length * 5 + 3, none⟩ = some (.slice none 0 0) := by rw [hrow.cellAt _ (by omega), List.getElem?_append_right (by omega), hxl]; simp
        have r3 : B6.frozen? ⟨g, (reads pre).length * 5 + 3, none⟩ = false := hrow.frozenAt _
        have m4 : B6.cell? ⟨g, (reads pre).length * 5 + 4, none⟩ = some (.slice none 0 0) := by rw [hrow.cellAt _ (by omega), List.getElem?_append_right (by omega), hxl]; simp
        have r4 : B6.frozen? ⟨g, (reads pre).length * 5 + 4, none⟩ = false := hrow.frozenAt _
        obtain ⟨w7, g7⟩ := row_filled rfl hrow hxl (.int .i64 k0) (.int .i64 n0) (.string nm) (.slice L nl lc) (.slice A0 na ac0)
        have HW7 := Lib.hid w7
        have HG7 := Lib.hid g7
        clear w7 g7 hrow hxl
        go_simp
        clear m0 m1 m2 m3 m4 r0 r1 r2 r3 r4
        generalize (((((B6.setCell ⟨g, (reads pre).length * 5, none⟩ (.int .i64 k0)).setCell ⟨g, (reads pre).length * 5 + 1, none⟩ (.int .i64 n0)).setCell ⟨g, (reads pre).length * 5 + 2, none⟩ (.string nm)).setCell ⟨g, (reads pre).length * 5 + 3, none⟩ (.slice L nl lc)).setCell ⟨g, (reads pre).length * 5 + 4, none⟩ (.slice A0 na ac0)) = B7 at *
        refine hK.out _ _ (Or.inl (up_of (by kernel_rfl))) ?_
        clear hK K
        (try simp only [Act.put, List.setIfInBounds_toArray, List.set_cons_zero, List.set_cons_succ])
        refine turns (rs := [10]) (by kernel_rfl) (by rfl) ?_
        refine Turns.cons rfl (fun K hK => ?_) Turns.nil
        have HN7 : Whole1 B7 (w.heap.size + 1 + 1) 27 #[.int .i64 5, .int .i64 0, .string ⟨#[]⟩, .slice none 0 0, .slice A' (reads pre).length ac] := (HG7.out.block _ HN6.out.lt (fun e => by injection e with e; omega)).trans HN6.out
        have m4 : B7.cell? ⟨w.heap.size + 1 + 1, 4, none⟩ = some (.slice A' (reads pre).length ac) := HN7.cell 4
        have r4 : B7.frozen? ⟨w.heap.size + 1 + 1, 4, none⟩ = false := HN7.free 4
        have HN8 := Lib.hid (HN7.set 4 (.slice (some ⟨g, 0, none⟩) ((reads pre).length + 1) cap))
        clear HN7
        go_simp
        refine hK.out _ _ (Or.inl (up_of (by kernel_rfl))) ?_
        clear hK K
        (try simp only [Act.put, List.setIfInBounds_toArray, List.set_cons_zero, List.set_cons_succ])
        refine until_done (by kernel_rfl) ?_
        exact FIN.out _ HN8.out (own_keep5 HW7.out fun q hq => Below.heap_setCell _ _ _ _ (by have hq2 : g = q := Option.some.inj hq; show q ≠ w.heap.size + 1 + 1; omega)) ⟨HG7.out.os, HG7.out.tape, HG7.out.output, by simpa [World.setCell] using HG7.out.size⟩ (fun q h0 h1 h2 => (Below.heap_setCell _ _ _ _ h1).trans (HG7.out.block q h0 (fun e => h2 (Option.some.inj e))))
      refine Turns.cons rfl (fun K hK => ?_) Turns.nil
      have m4 : B6.cell? ⟨w.heap.size + 1 + 1, 4, none⟩ = some (.slice A' (reads pre).length ac) := HN6.out.cell 4
      have r4 : B6.frozen? ⟨w.heap.size + 1 + 1, 4, none⟩ = false := HN6.out.free 4
      have HN7 := Lib.hid (HN6.out.set 4 (.slice (some ⟨g, 0, none⟩) ((reads pre).length + 1) cap))
      have HK7 : Hid (∀ q, q ≠ w.heap.size + 1 + 1 → (B6.setCell ⟨w.heap.size + 1 + 1, 4, none⟩ (.slice (some ⟨g, 0, none⟩) ((reads pre).length + 1) cap)).heap[q]? = B6.heap[q]?) := Lib.hid fun q hq => Below.heap_setCell _ _ _ _ hq
      have HW6 := Lib.hid (own_keep5 (w' := B6.setCell ⟨w.heap.size + 1 + 1, 4, none⟩ (.slice (some ⟨g, 0, none⟩) ((reads pre).length + 1) cap)) HOW.out fun q hq => HK7.out q (by have hq2 : g = q := Option.some.inj hq; show q ≠ w.heap.size + 1 + 1; omega))
      have HC7 : Hid ((B6.setCell ⟨w.heap.size + 1 + 1, 4, none⟩ (.slice (some ⟨g, 0, none⟩) ((reads pre).length + 1) cap)).os = B6.os ∧ (B6.setCell ⟨w.heap.size + 1 + 1, 4, none⟩ (.slice (some ⟨g, 0, none⟩) ((reads pre).length + 1) cap)).tape = B6.tape ∧ (B6.setCell ⟨w.heap.size + 1 + 1, 4, none⟩ (.slice (some ⟨g, 0, none⟩) ((reads pre).length + 1) cap)).output = B6.output ∧ (B6.setCell ⟨w.heap.size + 1 + 1, 4, none⟩ (.slice (some ⟨g, 0, none⟩) ((reads pre).length + 1) cap)).heap.size = B6.heap.size) := Lib.hid ⟨rfl, rfl, rfl, by simp [World.setCell]⟩
      go_simp
      clear m4 r4
      generalize B6.setCell ⟨w.heap.size + 1 + 1, 4, none⟩ (.slice (some ⟨g, 0, none⟩) ((reads pre).length + 1) cap) = B7 at *
      refine hK.out _ _ (Or.inl (up_of (by kernel_rfl))) ?_
      clear hK K
      (try simp only [Act.put, List.setIfInBounds_toArray, List.set_cons_zero, List.set_cons_succ])
      refine turns (rs := [8]) (by kernel_rfl) (by rfl) ?_
      refine Turns.cons rfl (fun K hK => ?_) Turns.nil
      have hxl := HXL.out
      have hrow := HW6.out
      have m0 : B7.cell? ⟨g, (reads pre).length * 5, none⟩ = some (.int .i64 0) := by rw [hrow.cellAt _ (by omega), List.getElem?_append_right (by omega), hxl]; simp
      have r0 : B7.frozen? ⟨g, (reads pre).length * 5, none⟩ = false := hrow.frozenAt _
      have m1 : B7.cell? ⟨g, (reads pre).length * 5 + 1, none⟩ = some (.int .i64 0) := by rw [hrow.cellAt _ (by omega), List.getElem?_append_right (by omega), hxl]; simp
      have r1 : B7.frozen? ⟨g, (reads pre).length * 5 + 1, none⟩ = false := hrow.frozenAt _
      have m2 : B7.cell? ⟨g, (reads pre).length * 5 + 2, none⟩ = some (.string ⟨#[]⟩) := by rw [hrow.cellAt _ (by omega), List.getElem?_append_right (by omega), hxl]; simp
      have r2 : B7.frozen? ⟨g, (reads pre).length * 5 + 2, none⟩ = false := hrow.frozenAt _
      have m3 : B7.cell? ⟨g, (reads pre).length * 5 + 3, none⟩ = some (.slice none 0 0) := by rw [hrow.cellAt _ (by omega), List.getElem?_append_right (by omega), hxl]; simp
      have r3 : B7.frozen? ⟨g, (reads pre).length * 5 + 3, none⟩ = false := hrow.frozenAt _
      have m4 : B7.cell? ⟨g, (reads pre).length * 5 + 4, none⟩ = some (.slice none 0 0) := by rw [hrow.cellAt _ (by omega), List.getElem?_append_right (by omega), hxl]; simp
      have r4 : B7.frozen? ⟨g, (reads pre).length * 5 + 4, none⟩ = false := hrow.frozenAt _
      obtain ⟨w7, g7⟩ := row_filled rfl hrow hxl (.int .i64 k0) (.int .i64 n0) (.string nm) (.slice L nl lc) (.slice A0 na ac0)
      have HW8 := Lib.hid w7
      have HG8 := Lib.hid g7
      clear w7 g7 hrow hxl
      go_simp
      clear m0 m1 m2 m3 m4 r0 r1 r2 r3 r4
      generalize (((((B7.setCell ⟨g, (reads pre).length * 5, none⟩ (.int .i64 k0)).setCell ⟨g, (reads pre).length * 5 + 1, none⟩ (.int .i64 n0)).setCell ⟨g, (reads pre).length * 5 + 2, none⟩ (.string nm)).setCell ⟨g, (reads pre).length * 5 + 3, none⟩ (.slice L nl lc)).setCell ⟨g, (reads pre).length * 5 + 4, none⟩ (.slice A0 na ac0)) = B8 at *
      refine hK.out _ _ (Or.inl (up_of (by kernel_rfl))) ?_
      clear hK K
      (try simp only [Act.put, List.setIfInBounds_toArray, List.set_cons_zero, List.set_cons_succ])
      refine until_done (by kernel_rfl) ?_
      exact FIN.out _ ((HG8.out.block _ HN7.out.lt (fun e => by injection e with e; omega)).trans HN7.out) HW8.out ⟨HG8.out.os.trans HC7.out.1, HG8.out.tape.trans HC7.out.2.1, HG8.out.output.trans HC7.out.2.2.1, Nat.le_trans (Nat.le_of_eq HC7.out.2.2.2.symm) HG8.out.size⟩ (fun q h0 h1 h2 => (HG8.out.block q (by rw [HC7.out.2.2.2]; exact h0) (fun e => h2 (Option.some.inj e))).trans (HK7.out q h1))
  case done =>
    rintro xs A C C' hI hT hS hsb hAs hK
    have hok := hI.ok
    have hIC := (hI.turn hT hl2 hl3 (by omega)).same hsb (by omega) (by omega)
    obtain ⟨j', hseqx, hnod, hvC⟩ := hS hok
    have hvC' := hvC.below (hsb.below (B := wb.heap.size) (by omega) (by have := hI.turned.size; have := hT.size; omega)) (by omega) (by omega) (by omega)
    obtain ⟨A', ac, xs', vs, lo, hi, hnode, hown⟩ := hIC.node
    have HI3 := Lib.hid hIC
    have HV3 := Lib.hid hvC'
    have HOW := Lib.hid hown
    have HX := Lib.hid (list_some hseqx)
    have HNO := Lib.hid hnod
    have HZS := Lib.hid (And.intro hsz0 hsz1)
    have HK := Lib.hid hK
    have hrs : w.heap.size + 6 < C'.heap.size := by have := hsb.2; have := hT.size; omega
    have d0 : C'.cell? ⟨w.heap.size, 0, none⟩ = some (.int .i64 0) := HI3.out.res.cell 0
    have f0 : C'.frozen? ⟨w.heap.size, 0, none⟩ = false := HI3.out.res.free 0
    have d1 : C'.cell? ⟨w.heap.size, 1, none⟩ = some (.int .i64 0) := HI3.out.res.cell 1
    have f1 : C'.frozen? ⟨w.heap.size, 1, none⟩ = false := HI3.out.res.free 1
    have d2 : C'.cell? ⟨w.heap.size, 2, none⟩ = some (.string ⟨#[]⟩) := HI3.out.res.cell 2
    have f2 : C'.frozen? ⟨w.heap.size, 2, none⟩ = false := HI3.out.res.free 2
    have d3 : C'.cell? ⟨w.heap.size, 3, none⟩ = some (.slice none 0 0) := HI3.out.res.cell 3
    have f3 : C'.frozen? ⟨w.heap.size, 3, none⟩ = false := HI3.out.res.free 3
    have d4 : C'.cell? ⟨w.heap.size, 4, none⟩ = some (.slice none 0 0) := HI3.out.res.cell 4
    have f4 : C'.frozen? ⟨w.heap.size, 4, none⟩ = false := HI3.out.res.free 4
    have e0 : C'.cell? ⟨w.heap.size + 1, 0, none⟩ = some (.bool false) := HI3.out.flag.cell 0
    have g0 : C'.frozen? ⟨w.heap.size + 1, 0, none⟩ = false := HI3.out.flag.free 0
    have n0 : C'.cell? ⟨w.heap.size + 1 + 1, 0, none⟩ = some (.int .i64 5) := hnode.cell 0
    have n1 : C'.cell? ⟨w.heap.size + 1 + 1, 1, none⟩ = some (.int .i64 0) := hnode.cell 1
    have n2 : C'.cell? ⟨w.heap.size + 1 + 1, 2, none⟩ = some (.string ⟨#[]⟩) := hnode.cell 2
    have n3 : C'.cell? ⟨w.heap.size + 1 + 1, 3, none⟩ = some (.slice none 0 0) := hnode.cell 3
    have n4 : C'.cell? ⟨w.heap.size + 1 + 1, 4, none⟩ = some (.slice A' (reads xs).length ac) := hnode.cell 4
    clear hIC hvC hvC' hown hseqx hnod hnode hI hS hT hsb hAs hK hsz0 hsz1 hok hseq
    gi_wp2
    clear d0 d1 d2 d3 d4 f0 f1 f2 f3 f4 e0 g0 n0 n1 n2 n3 n4
    obtain ⟨o1, o2, o3, o4, o5⟩ := box_outs HI3.out.res rfl HI3.out.flag HI3.out.turned (.int .i64 5) (.int .i64 0) (.string ⟨#[]⟩) (.slice none 0 0) (.slice A' (reads xs).length ac) (.bool true)
    have hz0 := HZS.out.1
    have hz1 := HZS.out.2
    generalize ((((((C'.setCell ⟨w.heap.size, 0, none⟩ (.int .i64 5)).setCell ⟨w.heap.size, 1, none⟩ (.int .i64 0)).setCell ⟨w.heap.size, 2, none⟩ (.string ⟨#[]⟩)).setCell ⟨w.heap.size, 3, none⟩ (.slice none 0 0)).setCell ⟨w.heap.size, 4, none⟩ (.slice A' (reads xs).length ac)).setCell ⟨w.heap.size + 1, 0, none⟩ (.bool true)) = W2 at *
    have hK2 : W2.heap[wb.heap.size]? = some (.deferred (some [])) := (o4 _ (by omega) (by omega)).trans HK.out
    refine ⟨by simp, .inl ⟨_, _, rfl, run_takeDeferred hK2, ?_⟩⟩
    have hput := sameBut_put W2 wb.heap.size (.deferred none)
    have hs5 := o5.size
    have hp3 := hput.below (B := w.heap.size) (by omega) (by omega)
    have q1 : Whole1 (W2.putObj wb.heap.size (.deferred none)) w.heap.size 27 #[.int .i64 5, .int .i64 0, .string ⟨#[]⟩, .slice none 0 0, .slice A' (reads xs).length ac] := (hput.block o1.lt (by omega)).trans o1
    have q2 : Whole1 (W2.putObj wb.heap.size (.deferred none)) (w.heap.size + 1) 4 #[.bool true] := (hput.block o2.lt (by omega)).trans o2
    have hk3 : ∀ g, wb.heap.size + 2 ≤ g → g < C'.heap.size → (W2.putObj wb.heap.size (.deferred none)).heap[g]? = C'.heap[g]? := fun g hg hl => (hput.block (by omega) (by omega)).trans (o4 g (by omega) (by omega))
    have hs3 : C'.heap.size ≤ (W2.putObj wb.heap.size (.deferred none)).heap.size := by rw [hput.2]; exact hs5
    have hV := (HV3.out.below o5 hl1 hl2 hl3).below hp3 hl1 hl2 hl3
    have hT := o3.below hp3 (Nat.le_refl _)
    have hO := (HOW.out.own.keep hs3 hk3).base (base := w.heap.size) (by omega)
    clear o1 o2 o3 o4 o5 hput hp3 hk3 hK2
    generalize W2.putObj wb.heap.size (.deferred none) = W3 at *
    have d0 : W3.cell? ⟨w.heap.size, 0, none⟩ = some (.int .i64 5) := q1.cell 0
    have d1 : W3.cell? ⟨w.heap.size, 1, none⟩ = some (.int .i64 0) := q1.cell 1
    have d2 : W3.cell? ⟨w.heap.size, 2, none⟩ = some (.string ⟨#[]⟩) := q1.cell 2
    have d3 : W3.cell? ⟨w.heap.size, 3, none⟩ = some (.slice none 0 0) := q1.cell 3
    have d4 : W3.cell? ⟨w.heap.size, 4, none⟩ = some (.slice A' (reads xs).length ac) := q1.cell 4
    have e0 : W3.cell? ⟨w.heap.size + 1, 0, none⟩ = some (.bool true) := q2.cell 0
    have hsv : sizeVa (.mk 5 0 ⟨#[]⟩ [] (reads xs)) = 1 + nodes (fun t : Va => t) xs := by rw [sizeVa, sizeVas_map]; rfl
    have hn := HNO.out
    refine ⟨.tuple #[.agg #[.int .i64 5, .int .i64 0, .string ⟨#[]⟩, .slice none 0 0, .slice A' (reads xs).length ac], .bool true], by simp [results, Tryz.results45, go_sem, d0, d1, d2, d3, d4, e0], 5, 0, ⟨#[]⟩, none, 0, 0, A', (reads xs).length, ac, true, j', _, rfl, hV, hT, Or.inr ⟨rfl, _, HX.out, by omega, by omega, hO⟩⟩
  case stop =>
    rintro pre A C C' hI hT hS hsb hAs hK
    have hIC := (hI.turn hT hl2 hl3).same hsb (by omega)
    obtain ⟨⟨j', m', hvC⟩, hbad⟩ := hS
    have HBAD := Lib.hid (list_bad (hbad hI.ok))
    have hsb0 := hsb.below (B := w.heap.size) (by omega) (by have := hI.turned.size; have := hT.size; omega)
    have hV0 := hvC.below hsb0 hl1 hl2 hl3
    have hrs : w.heap.size + 6 < C'.heap.size := by have := hsb.2; have := hT.size; omega
    have HK := Lib.hid hK
    have HV3 := Lib.hid hV0
    have HI3 := Lib.hid hIC
    have HZS := Lib.hid (And.intro hsz0 hsz1)
    clear hIC hvC hbad hsb0 hV0 hK hI hT hsb hsz0 hsz1 hseq hAs
    gi_wp2
    have hz0 := HZS.out.1
    have hz1 := HZS.out.2
    refine ⟨by simp, .inl ⟨_, _, rfl, run_takeDeferred HK.out, ?_⟩⟩
    have hput := sameBut_put C' wb.heap.size (.deferred none)
    have hp3 := hput.below (B := w.heap.size) (by omega) (by omega)
    have q1 : Whole1 (C'.putObj wb.heap.size (.deferred none)) w.heap.size 27 #[.int .i64 0, .int .i64 0, .string ⟨#[]⟩, .slice none 0 0, .slice none 0 0] := (hput.block HI3.out.res.lt (by omega)).trans HI3.out.res
    have q2 : Whole1 (C'.putObj wb.heap.size (.deferred none)) (w.heap.size + 1) 4 #[.bool false] := (hput.block HI3.out.flag.lt (by omega)).trans HI3.out.flag
    have hV := HV3.out.below hp3 hl1 hl2 hl3
    have hT := HI3.out.turned.below hp3 (Nat.le_refl _)
    clear hput hp3
    generalize C'.putObj wb.heap.size (.deferred none) = W3 at *
    have d0 : W3.cell? ⟨w.heap.size, 0, none⟩ = some (.int .i64 0) := q1.cell 0
    have d1 : W3.cell? ⟨w.heap.size, 1, none⟩ = some (.int .i64 0) := q1.cell 1
    have d2 : W3.cell? ⟨w.heap.size, 2, none⟩ = some (.string ⟨#[]⟩) := q1.cell 2
    have d3 : W3.cell? ⟨w.heap.size, 3, none⟩ = some (.slice none 0 0) := q1.cell 3
    have d4 : W3.cell? ⟨w.heap.size, 4, none⟩ = some (.slice none 0 0) := q1.cell 4
    have e0 : W3.cell? ⟨w.heap.size + 1, 0, none⟩ = some (.bool false) := q2.cell 0
    refine ⟨.tuple #[.agg #[.int .i64 0, .int .i64 0, .string ⟨#[]⟩, .slice none 0 0, .slice none 0 0], .bool false], by simp [results, Tryz.results45, go_sem, d0, d1, d2, d3, d4, e0], 0, 0, ⟨#[]⟩, none, 0, 0, none, 0, 0, false, _, _, rfl, hV, hT, Or.inl ⟨rfl, HBAD.out⟩⟩

end Go.Proofs.YtceclhndagoddaaGreatDoor
