/- spec.l7Any. -/
import Derived.Test.YtceclhndagoddaaODraw1
import Derived.Deep.AppendLies
import Derived.Deep.DeepCutAuto
import Derived.Deep.DrawnRows
import Derived.Deep.RegionHeld3
namespace Go.Proofs.Ytceclhndagoddaa
set_option maxRecDepth 100000
open Go.RowKit
attribute [local go_sem ↓] Go.wp_at_zero Go.wp_at_succ

/-- What is drawn to a depth measures no more. -/
def anyB : Nat → Nat | 0 => 1 | d + 1 => 2 * (anyB d + 1)
theorem anyB_pos : ∀ d, 1 ≤ anyB d
  | 0 => Nat.le_refl _
  | d + 1 => by rw [anyB]; omega
def AnyOne (d : Nat) : Prop := ∀ (D : Int) (p B : Nat) (w : World), D = (d : Int) → d ≤ 4 → CurAt w B p → Calls Try.prog 44 #[.pointer (some ⟨p, 0, none⟩), .int .i64 D] w (DrawnOt w B p (anyB d))
theorem pickKinds (p B : Nat) (W : World) (n : Nat) (hn : W.heap.size = n) (h : CurAt W B p) :
    Calls Try.prog 45 #[.pointer (some ⟨p, 0, none⟩), .slice (some ⟨n, 0, none⟩) 4 4] (W.alloc (.cells #[.int .i64 11, .int .i64 12, .int .i64 12, .int .i64 13] 3)) (DrawnOf (W.alloc (.cells #[.int .i64 11, .int .i64 12, .int .i64 12, .int .i64 13] 3)) B p [11, 12, 12, 13]) := by
  subst hn
  exact l1PickInt_any p B 4 (some ⟨W.heap.size, 0, none⟩) [11, 12, 12, 13] _ (CurAt.allocO h _) (ints_newO W _ [11, 12, 12, 13]) (fun q b off e => by cases e; have := h.lt; omega) (by decide) (by decide)

set_option maxHeartbeats 1000000 in
theorem anyLeaf (d : Nat) (D : Int) (hD : D < 2) : ∀ (p B : Nat) (w : World), CurAt w B p → Calls Try.prog 44 #[.pointer (some ⟨p, 0, none⟩), .int .i64 D] w (DrawnOt w B p (anyB d)) := by
  intro p B w hc
  have hpl := hc.lt
  obtain ⟨hb0, rX, hs0⟩ := boxes1 w 26 #[.int .i64 0, .string ⟨#[]⟩, .int .i64 0, .slice none 0 0]
  have hcX : CurAt (w.alloc (.cells #[.int .i64 0, .string ⟨#[]⟩, .int .i64 0, .slice none 0 0] 26)) B p := hc.allocO _
  have hgX : w.grownBy (w.alloc (.cells #[.int .i64 0, .string ⟨#[]⟩, .int .i64 0, .slice none 0 0] 26)) (some p) := World.grownBy_alloc w _ _
  clear hc hb0
  go_enter Try.func44, Try.ntmps44
  have HLF := Lib.hid (fun W h => specLeafO_any p B W h)
  go_wp2_with fail
  refine (HLF.out _ hcX).mono ?_
  rintro e w3 ⟨⟨v, t, rfl, hO, hz⟩, hc3, hg3⟩
  obtain ⟨A2, c2, rfl⟩ := hO.open
  have r3 := rX.grownO hg3 (by omega)
  have hg3' := only_trans hgX hg3
  have hO3 := hO.base (base0 := w.heap.size + 1) (by omega)
  have d0 : w3.cell? ⟨w.heap.size, 0, none⟩ = some (.int .i64 0) := r3.cell 0
  have f0 : w3.frozen? ⟨w.heap.size, 0, none⟩ = false := r3.free 0
  have d1 : w3.cell? ⟨w.heap.size, 1, none⟩ = some (.string ⟨#[]⟩) := r3.cell 1
  have f1 : w3.frozen? ⟨w.heap.size, 1, none⟩ = false := r3.free 1
  have d2 : w3.cell? ⟨w.heap.size, 2, none⟩ = some (.int .i64 0) := r3.cell 2
  have f2 : w3.frozen? ⟨w.heap.size, 2, none⟩ = false := r3.free 2
  have d3 : w3.cell? ⟨w.heap.size, 3, none⟩ = some (.slice none 0 0) := r3.cell 3
  have f3 : w3.frozen? ⟨w.heap.size, 3, none⟩ = false := r3.free 3
  have HF := Lib.hid (drawnO_fin0 (n := anyB d) hO3 (Nat.le_trans hz (anyB_pos d)) hc3 hpl hg3')
  clear r3 hO hO3
  go_wp2
  exact bodyPost_ret (v := .agg #[.int .i64 t.kind, .string t.name, .int .i64 t.num, .slice A2 t.args.length c2]) (by simp [results, Try.results44, go_sem, d0, d1, d2, d3]) rfl (HF.out _ _ _ _)

set_option maxHeartbeats 8000000 in
theorem anyNode (d : Nat) (D : Int) (hD : 2 ≤ D) (hD4 : D ≤ 4) (hIH : ∀ (p B : Nat) (W : World), CurAt W B p → Calls Try.prog 44 #[.pointer (some ⟨p, 0, none⟩), .int .i64 (D - 1)] W (DrawnOt W B p (anyB d))) : ∀ (p B : Nat) (w : World), CurAt w B p → Calls Try.prog 44 #[.pointer (some ⟨p, 0, none⟩), .int .i64 D] w (DrawnOt w B p (anyB (d + 1))) := by
  intro p B w hc
  have hpl := hc.lt
  have HIH := Lib.hid hIH
  have hwr : IntKind.i64.wrap (D - 1) = D - 1 := by rw [IntKind.wrap_i64]; omega
  obtain ⟨hb0, r0, hs0⟩ := boxes1 w 26 #[.int .i64 0, .string ⟨#[]⟩, .int .i64 0, .slice none 0 0]
  have hc0 : CurAt (w.alloc (.cells #[.int .i64 0, .string ⟨#[]⟩, .int .i64 0, .slice none 0 0] 26)) B p := hc.allocO _
  have hg0 : w.grownBy (w.alloc (.cells #[.int .i64 0, .string ⟨#[]⟩, .int .i64 0, .slice none 0 0] 26)) (some p) := World.grownBy_alloc w _ _
  have HON := Lib.hid (fun W h => l1Once_any p B 3 W h (by omega) (by omega))
  clear hc hb0 hIH
  go_enter Try.func44, Try.ntmps44
  go_wp2_with fail
  refine (HON.out _ hc0).mono ?_
  rintro e w1 ⟨⟨b, rfl⟩, hcX, hg1⟩
  have rX := r0.grownO hg1 (by omega)
  have hgX := only_trans hg0 hg1
  have hs1 := hg1.size
  rw [hs0] at hs1
  clear r0 hg0 hg1 hc0 hs0
  cases b with
  | true =>
    have HLF := Lib.hid (fun W h => specLeafO_any p B W h)
    go_wp2_with fail
    refine (HLF.out _ hcX).mono ?_
    rintro e w3 ⟨⟨v, t, rfl, hO, hz⟩, hc3, hg3⟩
    obtain ⟨A2, c2, rfl⟩ := hO.open
    have r3 := rX.grownO hg3 (by omega)
    have hg3' := only_trans hgX hg3
    have hO3 := hO.base (base0 := w.heap.size + 1) (by omega)
    have d0 : w3.cell? ⟨w.heap.size, 0, none⟩ = some (.int .i64 0) := r3.cell 0
    have f0 : w3.frozen? ⟨w.heap.size, 0, none⟩ = false := r3.free 0
    have d1 : w3.cell? ⟨w.heap.size, 1, none⟩ = some (.string ⟨#[]⟩) := r3.cell 1
    have f1 : w3.frozen? ⟨w.heap.size, 1, none⟩ = false := r3.free 1
    have d2 : w3.cell? ⟨w.heap.size, 2, none⟩ = some (.int .i64 0) := r3.cell 2
    have f2 : w3.frozen? ⟨w.heap.size, 2, none⟩ = false := r3.free 2
    have d3 : w3.cell? ⟨w.heap.size, 3, none⟩ = some (.slice none 0 0) := r3.cell 3
    have f3 : w3.frozen? ⟨w.heap.size, 3, none⟩ = false := r3.free 3
    have HF := Lib.hid (drawnO_fin0 (n := anyB (d + 1)) hO3 (Nat.le_trans hz (anyB_pos (d + 1))) hc3 hpl hg3')
    clear r3 hO hO3
    go_wp2
    exact bodyPost_ret (v := .agg #[.int .i64 t.kind, .string t.name, .int .i64 t.num, .slice A2 t.args.length c2]) (by simp [results, Try.results44, go_sem, d0, d1, d2, d3]) rfl (HF.out _ _ _ _)
  | false =>
    have HPK := Lib.hid (pickKinds p B w1 w1.heap.size rfl hcX)
    go_wp2_with fail
    refine HPK.out.mono ?_
    rintro e w2 ⟨⟨κ, rfl, hκ⟩, hc2, hg2a⟩
    have hg2 := only_trans (World.grownBy_alloc w1 _ _) hg2a
    have hs2 := hg2.size
    have hr2 := rX.grownO hg2 (by omega)
    have hgg2 := only_trans hgX hg2
    have hm0 : ∃ m : Nat, arityI κ = (m : Int) ∧ m ≤ 2 := by
      simp at hκ
      rcases hκ with rfl | rfl | rfl
      · exact ⟨1, rfl, by omega⟩
      · exact ⟨2, rfl, by omega⟩
      · exact ⟨2, rfl, by omega⟩
    obtain ⟨m, hm, hm2⟩ := hm0
    have HAR : Hid (∀ W, Calls Try.prog 20 #[.int .i64 κ] W fun e w' => e = .returned (.int .i64 (m : Int)) ∧ W = w') := Lib.hid (fun W => by have := specArity_any κ W; rw [hm] at this; exact this)
    obtain ⟨hbW, o0, hsW⟩ := boxes1 w2 26 #[.int .i64 κ, .string ⟨#[]⟩, .int .i64 0, .slice none 0 0]
    have hcW := hc2.belowO hbW hc2.lt
    have rW := hr2.below hbW hr2.lt
    have hgW := only_below hgg2 hbW
    clear hbW hc2 hr2 hgg2 hg2 hg2a HPK rX hgX hcX hm hκ
    go_wp2_with fail
    generalize w2.alloc (.cells #[.int .i64 κ, .string ⟨#[]⟩, .int .i64 0, .slice none 0 0] 26) = wc at *
    generalize hz1 : w2.heap.size = po at *
    refine (HAR.out _).mono ?_
    rintro e w3 ⟨rfl, rfl⟩
    have hol : po < wc.heap.size := o0.lt
    have hrl : w.heap.size < wc.heap.size := by omega
    have HGC := Lib.hid hgW
    obtain ⟨i1, hi1, hy0, hy1, hy2⟩ := info_parts infoOptic
    clear hgW
    go_wp2
    go_loopw [7] (fun i wr => ∃ (k c2 : Nat) (A2 : Option Addr) (us : List Ot), k = us.length ∧ k ≤ m ∧ i = .int .i64 k ∧ szOts us ≤ k * (anyB d + 1) ∧ Whole1 wr po 26 #[.int .i64 κ, .string ⟨#[]⟩, .int .i64 0, .slice A2 k c2] ∧ OGather wr wc.heap.size (.slice A2 k c2) k us ∧ (∀ q, q < wc.heap.size → q ≠ po → q ≠ p → wr.heap[q]? = wc.heap[q]?) ∧ CurAt wr B p ∧ w.grownBy wr (some p) ∧ wc.heap.size ≤ wr.heap.size) (fun i _ => m - (intOf i).toNat)
    case atStart => exact ⟨0, 0, none, [], rfl, Nat.zero_le _, rfl, by simp [szOts], o0, OGather.start _ _ _, fun _ _ _ _ => rfl, hcW, HGC.out, Nat.le_refl _⟩
    case round =>
      obtain ⟨k, c2, A2, us, hul, hk, rfl, hszu, ho, hga, hold, hcr, hb, hsz1⟩ := hrel
      have HOLD := Lib.hid hold
      have HSZU := Lib.hid hszu
      have HCR := Lib.hid hcr
      have HB9 := Lib.hid hb
      have hpr : p < wr.heap.size := hcr.lt
      have HUL := Lib.hid hul
      clear hold hszu hcr hb hul
      by_cases hlt : k < m
      · have hltI : (k : Int) < (m : Int) := by omega
        obtain ⟨xs, vs, lo, hi', hG⟩ := hga
        have HT := Lib.hid (HIH.out p B wr.drew (HCR.out.belowO ((Below.refl _ wr).drew) hpr))
        have HG := Lib.hid hG
        have HO := Lib.hid ho
        have o2 : wr.cell? ⟨po, 3, none⟩ = some (.slice A2 k c2) := ho.cell 3
        have f2 : wr.frozen? ⟨po, 3, none⟩ = false := ho.free 3
        have how : po < wr.heap.size := by omega
        have HOWN := Lib.hid hG.own
        clear hG ho
        go_wp2
        go_region_law (first
          | (go_simp; go_at_call 44; refine HT.out.mono ?_; rintro e w1 ⟨⟨v1, u, rfl, ho1, hz1⟩, hc1, hg1⟩; have hg1' : wr.grownBy w1 (some p) := ⟨hg1.os, hg1.tape, hg1.output, hg1.size, hg1.block⟩; have HC1 := Lib.hid hc1; have HT1 := Lib.hid ho1.owned; obtain ⟨T2, U2, rfl⟩ := ho1.open; clear ho1 hc1; have hs1 := hg1'.size; have y1 := HO.out.grownO hg1' (by omega); have y2 : w1.cell? ⟨po, 3, none⟩ = some (.slice A2 k c2) := y1.cell 3; have y4 := y1.below ((Below.refl w1.heap.size w1).alloc (Nat.le_refl _) (.cells #[.int .i64 u.kind, .string u.name, .int .i64 u.num, .slice T2 u.args.length U2] 26)) y1.lt; have y3 : (w1.alloc (.cells #[.int .i64 u.kind, .string u.name, .int .i64 u.num, .slice T2 u.args.length U2] 26)).cell? ⟨po, 3, none⟩ = some (.slice A2 k c2) := y4.cell 3; clear y1 y4; have hown2 := World.ownsRow.alloc (own_keep4o HOWN.out (fun g hg => hg1'.block g (HOWN.out.lt g hg).2 (fun e => by cases e; have := (HOWN.out.lt p hg).1; omega))) (.cells #[.int .i64 u.kind, .string u.name, .int .i64 u.num, .slice T2 u.args.length U2] 26); have hnews := newsO w1 26 (.int .i64 u.kind) (.string u.name) (.int .i64 u.num) (.slice T2 u.args.length U2))
          | (refine step_append_lies _ (by rfl) (.tmp 29) (.tmp 34) _ (by rfl) wc.heap.size 26 i1 (.agg #[.int .i64 0, .string ⟨#[]⟩, .int .i64 0, .slice none 0 0]) 4 56 Try.underlying24 hi1 hy0 hy1 hy2 rfl (by decide) _ k xs (by rfl) hown2 ⟨w1.heap.size, 0, none⟩ 1 1 [.int .i64 u.kind, .string u.name, .int .i64 u.num, .slice T2 u.args.length U2] (by rfl) rfl hnews.1 hnews.2 (by omega) (by unfold maxLen; omega) (by omega) (by simp; omega) (w1.heap.size + 1) (by simp) ?_; intro g cap w3 hown3 hg3 hat3 hlt3; have hvb := fun q (hq : (Value.slice A2 k c2).ownBlock = some q) => (HOWN.out.lt q hq).1; have ho3 : Whole1 w3 po 26 #[.int .i64 κ, .string ⟨#[]⟩, .int .i64 0, .slice A2 k c2] := ((hg3.block po (by simp; omega) (fun e => by have := hvb po e.symm; omega)).trans (Below.heap_alloc _ _ _ (by omega))).trans (HO.out.grownO hg1' (by omega)); have m2 : w3.cell? ⟨po, 3, none⟩ = some (.slice A2 k c2) := ho3.cell 3; have n2 : w3.frozen? ⟨po, 3, none⟩ = false := ho3.free 3))
        all_goals
          go_wp2
          go_roundw
          case rel => exact ⟨k + 1, cap, some ⟨g, 0, none⟩, us ++ [u], by simp [HUL.out], by omega, by go_num, (by rw [szOts_append, szOts, szOts, Nat.add_mul]; have := HSZU.out; omega), odraw_rel HUL.out hol (by omega) hpl hsz1 HG.out hg1' HC1.out HT1.out hown3 hg3 hat3 ho3 HOLD.out HB9.out⟩
          case measure => simp [intOf]; omega
      · have hke : k = m := by omega
        subst hke
        have hul := HUL.out
        have hltI : ¬ ((k : Nat) : Int) < (k : Int) := by omega
        have r3 : Whole1 wr w.heap.size 26 #[.int .i64 0, .string ⟨#[]⟩, .int .i64 0, .slice none 0 0] := (HOLD.out _ hrl (by omega) (by omega)).trans rW
        have o0 : wr.cell? ⟨po, 0, none⟩ = some (.int .i64 κ) := ho.cell 0
        have g0 : wr.frozen? ⟨po, 0, none⟩ = false := ho.free 0
        have o1 : wr.cell? ⟨po, 1, none⟩ = some (.string ⟨#[]⟩) := ho.cell 1
        have g1 : wr.frozen? ⟨po, 1, none⟩ = false := ho.free 1
        have o2 : wr.cell? ⟨po, 2, none⟩ = some (.int .i64 0) := ho.cell 2
        have g2 : wr.frozen? ⟨po, 2, none⟩ = false := ho.free 2
        have o3 : wr.cell? ⟨po, 3, none⟩ = some (.slice A2 k c2) := ho.cell 3
        have g3 : wr.frozen? ⟨po, 3, none⟩ = false := ho.free 3
        have d0 : wr.cell? ⟨w.heap.size, 0, none⟩ = some (.int .i64 0) := r3.cell 0
        have f0 : wr.frozen? ⟨w.heap.size, 0, none⟩ = false := r3.free 0
        have d1 : wr.cell? ⟨w.heap.size, 1, none⟩ = some (.string ⟨#[]⟩) := r3.cell 1
        have f1 : wr.frozen? ⟨w.heap.size, 1, none⟩ = false := r3.free 1
        have d2 : wr.cell? ⟨w.heap.size, 2, none⟩ = some (.int .i64 0) := r3.cell 2
        have f2 : wr.frozen? ⟨w.heap.size, 2, none⟩ = false := r3.free 2
        have d3 : wr.cell? ⟨w.heap.size, 3, none⟩ = some (.slice none 0 0) := r3.cell 3
        have f3 : wr.frozen? ⟨w.heap.size, 3, none⟩ = false := r3.free 3
        have hown : OwnOt wr (w.heap.size + 1) (.agg #[.int .i64 κ, .string ⟨#[]⟩, .int .i64 0, .slice A2 k c2]) (.mk κ 0 ⟨#[]⟩ us) := by
          obtain ⟨xs, vs, lo, hi', hG⟩ := hga
          exact OwnOt.of (t := .mk κ 0 ⟨#[]⟩ us) (Nat.zero_le _) (by simp only [Ot.args]; unfold maxLen; omega) hul.symm ⟨xs, vs, lo, hi', hG.base (by omega)⟩
        have hszt : szOt (.mk κ 0 ⟨#[]⟩ us) ≤ anyB (d + 1) := by
          rw [szOt, anyB]
          have h1 := HSZU.out
          have h0 : (⟨#[]⟩ : ByteArray).size = 0 := rfl
          have h2 : k * (anyB d + 1) ≤ 2 * (anyB d + 1) := Nat.mul_le_mul_right _ hm2
          omega
        have HF := Lib.hid (drawnO_fin0 (n := anyB (d + 1)) hown hszt HCR.out hpl HB9.out)
        clear ho hga r3 hown hszt
        go_wp2
        exact bodyPost_ret (v := .agg #[.int .i64 κ, .string ⟨#[]⟩, .int .i64 0, .slice A2 k c2]) (by simp [results, Try.results44, go_sem, d0, d1, d2, d3]; exact HUL.out.symm) rfl (HF.out _ _ _ _)

theorem specAnyO_any : ∀ d, AnyOne d
  | 0 => fun D p B w hD h4 hc => anyLeaf 0 D (by omega) p B w hc
  | d + 1 => fun D p B w hD h4 hc => by
    by_cases h2 : D < 2
    · exact anyLeaf (d + 1) D h2 p B w hc
    · exact anyNode d D (by omega) (by omega) (fun p B W h => specAnyO_any d (D - 1) p B W (by omega) (by omega) h) p B w hc

end Go.Proofs.Ytceclhndagoddaa
