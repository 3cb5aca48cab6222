/- The draws of optics. -/
import Derived.Test.YtceclhndagoddaaODraw3
import Derived.Test.YtceclhndagoddaaSpecCopyOt
import Derived.Deep.DeepCutAuto
import Derived.Deep.DrawnRows
import Derived.Deep.RegionHeld3
namespace Go.Proofs.Ytceclhndagoddaa
set_option maxRecDepth 100000
open Go.RowKit
attribute [local go_sem ↓] Go.wp_at_zero Go.wp_at_succ

theorem BytesAt.allocO {w : World} {A : Option Addr} {n : Nat} (h : BytesAt w w.heap.size A n) (o : Obj) : BytesAt (w.alloc o) (w.alloc o).heap.size A n :=
  (h.below ((Below.refl w.heap.size w).alloc (Nat.le_refl _) o)).keepMore (by simp)
/-- An optic is drawn, in new blocks; what was there stands. -/
def GivesOt (w : World) (e : Ending) (w' : World) : Prop := (∃ v t, e = .returned v ∧ OtIn w' (Span w.heap.size w'.heap.size) v t ∧ szOt t ≤ 80) ∧ Below w.heap.size w w'
/-- Two optics are drawn; what was there stands. -/
def GivesTwoOt (w : World) (e : Ending) (w' : World) : Prop := (∃ v t v' t', e = .returned (.tuple #[v, v']) ∧ OtIn w' (Span w.heap.size w'.heap.size) v t ∧ szOt t ≤ 80 ∧ OtIn w' (Span w.heap.size w'.heap.size) v' t' ∧ szOt t' ≤ 80) ∧ Below w.heap.size w w'
theorem otIn_set4 {W : World} {S : Nat → Prop} {lo : Nat} {v : Value} {t : Ot} (h : OtIn W S v t) (hS : ∀ b, S b → lo ≤ b ∧ b < W.heap.size) (q b0 : Nat) (hq : q < lo) (hb : b0 ≤ lo) (a b c d : Value) : OtIn ((((W.setCell ⟨q, 0, none⟩ a).setCell ⟨q, 1, none⟩ b).setCell ⟨q, 2, none⟩ c).setCell ⟨q, 3, none⟩ d) (Span b0 ((((W.setCell ⟨q, 0, none⟩ a).setCell ⟨q, 1, none⟩ b).setCell ⟨q, 2, none⟩ c).setCell ⟨q, 3, none⟩ d).heap.size) v t := by
  have hk : ∀ g, g ≠ q → ((((W.setCell ⟨q, 0, none⟩ a).setCell ⟨q, 1, none⟩ b).setCell ⟨q, 2, none⟩ c).setCell ⟨q, 3, none⟩ d).heap[g]? = W.heap[g]? := fun g hg => by
    rw [Below.heap_setCell _ _ _ _ hg, Below.heap_setCell _ _ _ _ hg, Below.heap_setCell _ _ _ _ hg, Below.heap_setCell _ _ _ _ hg]
  have hs : ((((W.setCell ⟨q, 0, none⟩ a).setCell ⟨q, 1, none⟩ b).setCell ⟨q, 2, none⟩ c).setCell ⟨q, 3, none⟩ d).heap.size = W.heap.size := by simp [World.setCell]
  rw [hs]
  exact (h.keep fun g hg _ => hk g (by have := (hS g hg).1; omega)).wide fun g hg => ⟨Nat.le_trans hb (hS g hg).1, (hS g hg).2⟩

/-- The optic under way: its box, its tree beside the box, the result's box. -/
structure WrapAt (w : World) (lo z : Nat) (W : World) (u : Ot) (A : Option Addr) (c : Nat) : Prop where
  box : Whole1 W z 26 #[.int .i64 u.kind, .string u.name, .int .i64 u.num, .slice A u.args.length c]
  tree : OtIn W (fun b => lo ≤ b ∧ b < W.heap.size ∧ b ≠ z) (.agg #[.int .i64 u.kind, .string u.name, .int .i64 u.num, .slice A u.args.length c]) u
  res : Whole1 W w.heap.size 26 #[.int .i64 0, .string ⟨#[]⟩, .int .i64 0, .slice none 0 0]
  below : Below w.heap.size w W
theorem WrapAt.step {w : World} {lo z : Nat} {W W' : World} {u : Ot} {A : Option Addr} {c : Nat} (h : WrapAt w lo z W u A c) (hw : w.heap.size < lo) (hz : lo ≤ z) (hs : W'.heap.size = W.heap.size + 1) (hk : ∀ q, q < W.heap.size → q ≠ z → W'.heap[q]? = W.heap[q]?) (hn : Whole1 W' W.heap.size 26 #[.int .i64 u.kind, .string u.name, .int .i64 u.num, .slice A u.args.length c]) (hb : Whole1 W' z 26 #[.int .i64 11, .string ⟨#[]⟩, .int .i64 0, .slice (some ⟨W.heap.size, 0, none⟩) 1 1]) (hB : Below w.heap.size w W') : WrapAt w lo z W' (.mk 11 0 ⟨#[]⟩ [u]) (some ⟨W.heap.size, 0, none⟩) 1 := by
  have hzl := h.box.lt
  refine ⟨hb, ?_, (hk _ h.res.lt (by omega)).trans h.res, hB⟩
  have hkeep : OtIn W' (fun b => lo ≤ b ∧ b < W.heap.size ∧ b ≠ z) (.agg #[.int .i64 u.kind, .string u.name, .int .i64 u.num, .slice A u.args.length c]) u := h.tree.keep fun b hb' _ => hk b hb'.2.1 hb'.2.2
  refine OtIn.of (t := .mk 11 0 ⟨#[]⟩ [u]) (Sa := fun b => lo ≤ b ∧ b < W'.heap.size ∧ b ≠ z) (Nat.zero_le _) ⟨by simp [Ot.args, maxLen], W.heap.size, fun _ => .agg #[.int .i64 u.kind, .string u.name, .int .i64 u.num, .slice A u.args.length c], fun _ b => lo ≤ b ∧ b < W.heap.size ∧ b ≠ z, .inr ⟨rfl, ⟨by omega, by omega, by omega⟩, _, hn, fun i hi j hj => ?_⟩, fun i hi b hb' => ⟨⟨hb'.1, by have := hb'.2.1; omega, hb'.2.2⟩, by have := hb'.2.1; omega⟩, fun i j hi hj hne => ?_, fun i hi => ?_⟩ fun b hb' => hb'
  · simp only [Ot.args, List.length_singleton] at hi
    have h0 : i = 0 := by omega
    subst h0
    have : j = 0 ∨ j = 1 ∨ j = 2 ∨ j = 3 := by omega
    rcases this with rfl | rfl | rfl | rfl
    · simp [partAt]
    · simp [partAt]
    · simp [partAt]
    · simp [partAt]
  · simp only [Ot.args, List.length_singleton] at hi hj
    omega
  · simp only [Ot.args, List.length_singleton] at hi
    have h0 : i = 0 := by omega
    subst h0
    exact hkeep

theorem WrapAt.wrapped {w : World} {lo z : Nat} {W : World} {u : Ot} {A : Option Addr} {c : Nat} (h : WrapAt w lo z W u A c) (hw : w.heap.size < lo) (hz : lo ≤ z) :
    WrapAt w lo z (((((W.setCell ⟨z, 0, none⟩ (.int .i64 11)).setCell ⟨z, 1, none⟩ (.string ⟨#[]⟩)).setCell ⟨z, 2, none⟩ (.int .i64 0)).setCell ⟨z, 3, none⟩ (.slice (some ⟨W.heap.size, 0, none⟩) 1 1)).alloc (.cells #[.int .i64 u.kind, .string u.name, .int .i64 u.num, .slice A u.args.length c] 26)) (.mk 11 0 ⟨#[]⟩ [u]) (some ⟨W.heap.size, 0, none⟩) 1 := by
  have hS : ((((W.setCell ⟨z, 0, none⟩ (.int .i64 11)).setCell ⟨z, 1, none⟩ (.string ⟨#[]⟩)).setCell ⟨z, 2, none⟩ (.int .i64 0)).setCell ⟨z, 3, none⟩ (.slice (some ⟨W.heap.size, 0, none⟩) 1 1)).heap.size = W.heap.size := by simp [World.setCell]
  have hK : ∀ q, q ≠ z → ((((W.setCell ⟨z, 0, none⟩ (.int .i64 11)).setCell ⟨z, 1, none⟩ (.string ⟨#[]⟩)).setCell ⟨z, 2, none⟩ (.int .i64 0)).setCell ⟨z, 3, none⟩ (.slice (some ⟨W.heap.size, 0, none⟩) 1 1)).heap[q]? = W.heap[q]? := fun q hq => by
    rw [Below.heap_setCell _ _ _ _ hq, Below.heap_setCell _ _ _ _ hq, Below.heap_setCell _ _ _ _ hq, Below.heap_setCell _ _ _ _ hq]
  have hb := (((h.box.set 0 (.int .i64 11)).set 1 (.string ⟨#[]⟩)).set 2 (.int .i64 0)).set 3 (.slice (some ⟨W.heap.size, 0, none⟩) 1 1)
  have hB := (((h.below.setCell (p := ⟨z, 0, none⟩) (by show w.heap.size ≤ z; omega) (.int .i64 11)).setCell (p := ⟨z, 1, none⟩) (by show w.heap.size ≤ z; omega) (.string ⟨#[]⟩)).setCell (p := ⟨z, 2, none⟩) (by show w.heap.size ≤ z; omega) (.int .i64 0)).setCell (p := ⟨z, 3, none⟩) (by show w.heap.size ≤ z; omega) (.slice (some ⟨W.heap.size, 0, none⟩) 1 1)
  have hzl := h.box.lt
  generalize ((((W.setCell ⟨z, 0, none⟩ (.int .i64 11)).setCell ⟨z, 1, none⟩ (.string ⟨#[]⟩)).setCell ⟨z, 2, none⟩ (.int .i64 0)).setCell ⟨z, 3, none⟩ (.slice (some ⟨W.heap.size, 0, none⟩) 1 1)) = W4 at *
  have hN := Whole1.new W4 26 #[.int .i64 u.kind, .string u.name, .int .i64 u.num, .slice A u.args.length c]
  rw [hS] at hN
  refine h.step hw hz (by simp [hS]) (fun q hq hne => (Below.heap_alloc _ _ _ (by omega)).trans (hK q hne)) hN (hb.below ((Below.refl W4.heap.size W4).alloc (Nat.le_refl _) _) (by omega)) (hB.alloc hB.size _)

set_option maxHeartbeats 1000000 in
theorem drawArityOf_any (A : Option Addr) (n cap : Nat) (w : World) (hA : BytesAt w w.heap.size A n) (hn : n ≤ 2 ^ 47) :
    Calls Try.prog 14 #[.slice A n cap] w fun e w' => (∃ x : Int, e = .returned (.int .i64 x) ∧ -1 ≤ x ∧ x ≤ 14) ∧ Below w.heap.size w w' := by
  have hc := Lib.hid (l1New_any A n cap w hA hn)
  clear hA
  go_enter Try.func14, Try.ntmps14
  go_wp2_with fail
  refine hc.out.mono ?_
  rintro e w1 ⟨p, rfl, hc1, hb1⟩
  go_wp2_with fail
  refine (l1Below_any p _ 16 _ hc1 (by omega) (by omega)).mono ?_
  rintro e w2 ⟨⟨x, rfl, hx0, hx1⟩, hc2, hg2⟩
  have hb2 := below_only hb1 hg2 hb1.size hc1.low
  go_wp2
  go_ret
  exact ⟨⟨_, rfl, by omega, by omega⟩, hb2⟩

set_option maxHeartbeats 4000000 in
theorem drawIsOptic_any (A : Option Addr) (n cap : Nat) (w : World) (hA : BytesAt w w.heap.size A n) (hn : n ≤ 2 ^ 47) :
    Calls Try.prog 10 #[.slice A n cap] w (GivesOt w) := by
  obtain ⟨hb0, r0, hs0⟩ := boxes1 w 26 #[.int .i64 0, .string ⟨#[]⟩, .int .i64 0, .slice none 0 0]
  have hc := Lib.hid (l1New_any A n cap (w.alloc (.cells #[.int .i64 0, .string ⟨#[]⟩, .int .i64 0, .slice none 0 0] 26)) (hA.allocO _) hn)
  clear hA
  go_enter Try.func10, Try.ntmps10
  go_wp2_with fail
  refine hc.out.mono ?_
  rintro e w1 ⟨p, rfl, hc1, hb1⟩
  go_wp2_with fail
  refine (specBentO_any p _ w1 hc1).mono ?_
  rintro e w2 ⟨⟨v, t, rfl, hO, hz⟩, hc2, hg2⟩
  have hi := hO.owned
  obtain ⟨A2, ac, rfl⟩ := hO.open
  have hs1 := hb1.size
  have hs2 := hg2.size
  have hlow := hc1.low
  have hb2 := below_only hb1 hg2 hb1.size hc1.low
  have r2 := r0.below hb2 r0.lt
  have hbw := hb0.trans (hb2.mono hb0.size)
  have hp2 := hc1.lt
  rw [hs0] at hs1 hlow
  obtain ⟨hbB, rb, hsB⟩ := boxes1 w2 26 #[.int .i64 t.kind, .string t.name, .int .i64 t.num, .slice A2 t.args.length ac]
  have HU0 := Lib.hid (show WrapAt w w1.heap.size w2.heap.size (w2.alloc (.cells #[.int .i64 t.kind, .string t.name, .int .i64 t.num, .slice A2 t.args.length ac] 26)) t A2 ac from ⟨rb, (hi.keep (fun b hb' _ => hbB.block b hb'.2)).wide (fun b hb' => ⟨hb'.1, by have := hb'.2; omega, by have := hb'.2; omega⟩), r2.below hbB r2.lt, hbw.trans (hbB.mono hbw.size)⟩)
  have hcB := hc2.belowO hbB hc2.lt
  have hplt := hc2.lt
  clear hi hO hb1 hc1 hb2 r2 r0 hb0 hbw hbB hs0 hg2 hc2 rb
  go_wp2_with fail
  generalize hz2 : w2.heap.size = z at *
  generalize w2.alloc (.cells #[.int .i64 t.kind, .string t.name, .int .i64 t.num, .slice A2 t.args.length ac] 26) = W at *
  refine (l1Once_any p _ 8 _ hcB (by omega) (by omega)).mono ?_
  rintro e w3 ⟨⟨b, rfl⟩, hc3, hg3⟩
  have hs3 := hg3.size
  have HU : Hid (WrapAt w w1.heap.size z w3 t A2 ac) := Lib.hid ⟨HU0.out.box.grownO hg3 (by omega), (HU0.out.tree.keep (fun b hb' hl => hg3.block b hl (fun e => by injection e with e; have := hb'.1; omega))).wide (fun b hb' => ⟨hb'.1, by have := hb'.2.1; omega, hb'.2.2⟩), HU0.out.res.grownO hg3 (by omega), below_only HU0.out.below hg3 (by omega) (by omega)⟩
  clear HU0 hg3 hcB
  cases b with
  | false =>
    have q0 : w3.cell? ⟨z, 0, none⟩ = some (.int .i64 t.kind) := HU.out.box.cell 0
    have u0 : w3.frozen? ⟨z, 0, none⟩ = false := HU.out.box.free 0
    have q1 : w3.cell? ⟨z, 1, none⟩ = some (.string t.name) := HU.out.box.cell 1
    have u1 : w3.frozen? ⟨z, 1, none⟩ = false := HU.out.box.free 1
    have q2 : w3.cell? ⟨z, 2, none⟩ = some (.int .i64 t.num) := HU.out.box.cell 2
    have u2 : w3.frozen? ⟨z, 2, none⟩ = false := HU.out.box.free 2
    have q3 : w3.cell? ⟨z, 3, none⟩ = some (.slice A2 t.args.length ac) := HU.out.box.cell 3
    have u3 : w3.frozen? ⟨z, 3, none⟩ = false := HU.out.box.free 3
    have d0 : w3.cell? ⟨w.heap.size, 0, none⟩ = some (.int .i64 0) := HU.out.res.cell 0
    have f0 : w3.frozen? ⟨w.heap.size, 0, none⟩ = false := HU.out.res.free 0
    have d1 : w3.cell? ⟨w.heap.size, 1, none⟩ = some (.string ⟨#[]⟩) := HU.out.res.cell 1
    have f1 : w3.frozen? ⟨w.heap.size, 1, none⟩ = false := HU.out.res.free 1
    have d2 : w3.cell? ⟨w.heap.size, 2, none⟩ = some (.int .i64 0) := HU.out.res.cell 2
    have f2 : w3.frozen? ⟨w.heap.size, 2, none⟩ = false := HU.out.res.free 2
    have d3 : w3.cell? ⟨w.heap.size, 3, none⟩ = some (.slice none 0 0) := HU.out.res.cell 3
    have f3 : w3.frozen? ⟨w.heap.size, 3, none⟩ = false := HU.out.res.free 3
    have HF : Hid (∀ a b c d, GivesOt w (.returned (.agg #[.int .i64 t.kind, .string t.name, .int .i64 t.num, .slice A2 t.args.length ac])) ((((w3.setCell ⟨w.heap.size, 0, none⟩ a).setCell ⟨w.heap.size, 1, none⟩ b).setCell ⟨w.heap.size, 2, none⟩ c).setCell ⟨w.heap.size, 3, none⟩ d)) := Lib.hid (fun a b c d => ⟨⟨_, t, rfl, otIn_set4 HU.out.tree (fun b hb' => ⟨hb'.1, hb'.2.1⟩) w.heap.size w.heap.size (by omega) (by omega) a b c d, by omega⟩, (((HU.out.below.setCell (by simp) _).setCell (by simp) _).setCell (by simp) _).setCell (by simp) _⟩)
    go_wp2
    exact bodyPost_ret (v := .agg #[.int .i64 t.kind, .string t.name, .int .i64 t.num, .slice A2 t.args.length ac]) (by simp [results, Try.results10, go_sem, d0, d1, d2, d3]) rfl (HF.out _ _ _ _)
  | true =>
    go_wp2_with fail
    refine (l1Below_any p _ 5 _ hc3 (by omega) (by omega)).mono ?_
    rintro e w4 ⟨⟨y, rfl, hy0, hy1⟩, hc4, hg4⟩
    have hs4 := hg4.size
    have HU4 : Hid (WrapAt w w1.heap.size z w4 t A2 ac) := Lib.hid ⟨HU.out.box.grownO hg4 (by omega), (HU.out.tree.keep (fun b hb' hl => hg4.block b hl (fun e => by injection e with e; have := hb'.1; omega))).wide (fun b hb' => ⟨hb'.1, by have := hb'.2.1; omega, hb'.2.2⟩), HU.out.res.grownO hg4 (by omega), below_only HU.out.below hg4 (by omega) (by omega)⟩
    clear HU hg4 hc3 hc4
    obtain ⟨m, hm⟩ : ∃ m : Nat, (m : Int) = 7 + y := ⟨(7 + y).toNat, by omega⟩
    have hm11 : m ≤ 11 := by omega
    go_wp2
    go_loopw [6] (fun i wr => ∃ (k : Nat) (u : Ot) (A : Option Addr) (c : Nat), k ≤ m ∧ i = .int .i64 k ∧ WrapAt w w1.heap.size z wr u A c ∧ szOt u ≤ 60 + k) (fun i _ => m - (intOf i).toNat)
    case atStart => exact ⟨0, t, A2, ac, Nat.zero_le _, rfl, HU4.out, by omega⟩
    case round =>
      obtain ⟨k, u, A, c, hk, rfl, hU, hzu⟩ := hrel
      have HU := Lib.hid hU
      clear hU
      by_cases hlt : k < m
      · have hltI : (k : Int) < 7 + y := by omega
        have q0 : wr.cell? ⟨z, 0, none⟩ = some (.int .i64 u.kind) := HU.out.box.cell 0
        have u0 : wr.frozen? ⟨z, 0, none⟩ = false := HU.out.box.free 0
        have q1 : wr.cell? ⟨z, 1, none⟩ = some (.string u.name) := HU.out.box.cell 1
        have u1 : wr.frozen? ⟨z, 1, none⟩ = false := HU.out.box.free 1
        have q2 : wr.cell? ⟨z, 2, none⟩ = some (.int .i64 u.num) := HU.out.box.cell 2
        have u2 : wr.frozen? ⟨z, 2, none⟩ = false := HU.out.box.free 2
        have q3 : wr.cell? ⟨z, 3, none⟩ = some (.slice A u.args.length c) := HU.out.box.cell 3
        have u3 : wr.frozen? ⟨z, 3, none⟩ = false := HU.out.box.free 3
        have hzl := HU.out.box.lt
        have hX := Lib.hid (HU.out.wrapped (by omega) (by omega))
        go_wp2
        go_roundw
        case rel => exact ⟨k + 1, _, _, _, by omega, by go_num, hX.out, by simp only [szOt, szOts]; have h0 : (⟨#[]⟩ : ByteArray).size = 0 := rfl; omega⟩
        case measure => simp [intOf]; omega
      · have hltI : ¬ (k : Int) < 7 + y := by omega
        have q0 : wr.cell? ⟨z, 0, none⟩ = some (.int .i64 u.kind) := HU.out.box.cell 0
        have u0 : wr.frozen? ⟨z, 0, none⟩ = false := HU.out.box.free 0
        have q1 : wr.cell? ⟨z, 1, none⟩ = some (.string u.name) := HU.out.box.cell 1
        have u1 : wr.frozen? ⟨z, 1, none⟩ = false := HU.out.box.free 1
        have q2 : wr.cell? ⟨z, 2, none⟩ = some (.int .i64 u.num) := HU.out.box.cell 2
        have u2 : wr.frozen? ⟨z, 2, none⟩ = false := HU.out.box.free 2
        have q3 : wr.cell? ⟨z, 3, none⟩ = some (.slice A u.args.length c) := HU.out.box.cell 3
        have u3 : wr.frozen? ⟨z, 3, none⟩ = false := HU.out.box.free 3
        have d0 : wr.cell? ⟨w.heap.size, 0, none⟩ = some (.int .i64 0) := HU.out.res.cell 0
        have f0 : wr.frozen? ⟨w.heap.size, 0, none⟩ = false := HU.out.res.free 0
        have d1 : wr.cell? ⟨w.heap.size, 1, none⟩ = some (.string ⟨#[]⟩) := HU.out.res.cell 1
        have f1 : wr.frozen? ⟨w.heap.size, 1, none⟩ = false := HU.out.res.free 1
        have d2 : wr.cell? ⟨w.heap.size, 2, none⟩ = some (.int .i64 0) := HU.out.res.cell 2
        have f2 : wr.frozen? ⟨w.heap.size, 2, none⟩ = false := HU.out.res.free 2
        have d3 : wr.cell? ⟨w.heap.size, 3, none⟩ = some (.slice none 0 0) := HU.out.res.cell 3
        have f3 : wr.frozen? ⟨w.heap.size, 3, none⟩ = false := HU.out.res.free 3
        have HF : Hid (∀ a b c' d, GivesOt w (.returned (.agg #[.int .i64 u.kind, .string u.name, .int .i64 u.num, .slice A u.args.length c])) ((((wr.setCell ⟨w.heap.size, 0, none⟩ a).setCell ⟨w.heap.size, 1, none⟩ b).setCell ⟨w.heap.size, 2, none⟩ c').setCell ⟨w.heap.size, 3, none⟩ d)) := Lib.hid (fun a b c' d => ⟨⟨_, u, rfl, otIn_set4 HU.out.tree (fun b hb' => ⟨hb'.1, hb'.2.1⟩) w.heap.size w.heap.size (by omega) (by omega) a b c' d, by omega⟩, (((HU.out.below.setCell (by simp) _).setCell (by simp) _).setCell (by simp) _).setCell (by simp) _⟩)
        go_wp2
        exact bodyPost_ret (v := .agg #[.int .i64 u.kind, .string u.name, .int .i64 u.num, .slice A u.args.length c]) (by simp [results, Try.results10, go_sem, d0, d1, d2, d3]) rfl (HF.out _ _ _ _)

end Go.Proofs.Ytceclhndagoddaa
