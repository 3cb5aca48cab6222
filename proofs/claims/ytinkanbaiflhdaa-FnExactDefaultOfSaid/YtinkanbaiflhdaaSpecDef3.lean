/- spec.l5Default of a record. -/
import Derived.Test.YtinkanbaiflhdaaDefVa
import Derived.Test.YtinkanbaiflhdaaVCopyLib
import Derived.Deep.DeepCutAuto
namespace Go.Proofs.Ytinkanbaiflhdaa
set_option maxRecDepth 100000
open Go.RowKit
attribute [local go_sem ↓] Go.wp_at_zero Go.wp_at_succ

set_option maxHeartbeats 4000000 in
theorem specDef_3 (ls : List ByteArray) (ts : List Ty) (L A : Option Addr) (lc ac : Nat) (w : World) (hl : StrsAt w w.heap.size L ls) (hn : ls.length ≤ maxLen) (hls : ls.length ≤ 1048576) (hz : ∀ i, (h : i < ls.length) → ls[i].size ≤ maxLen) (ha : TysAt w w.heap.size A ts) (hsz : szTys ts ≤ 1048576)
    (hall : ∀ i, (h : i < ts.length) → ∀ (v : Value) (W : World), TyAt W W.heap.size v ts[i] → Calls Try.prog 68 #[v] W (NewVa W (defVa ts[i]))) :
    Calls Try.prog 68 #[.agg #[.int .i64 3, .slice L ls.length lc, .slice A ts.length ac]] w (NewVa w (.mk 3 0 ⟨#[]⟩ ls (defVas ts))) := by
  have HALL := Lib.hid hall
  have HN := Lib.hid hz
  clear hall hz
  have HRL := Lib.hid (fun k (hk : k < ts.length) => (show k < (defVas ts).length by rw [defVas_len]; exact hk))
  have HRN := Lib.hid (defVas_len ts)
  have HNM := Lib.hid (show (⟨#[]⟩ : ByteArray).size ≤ maxLen by simp [ByteArray.size])
  have hle : ts.length ≤ 1048576 := by have := szTys_len ts; omega
  obtain ⟨i0, hi, hz0, hz1, hz2⟩ := info_parts infoString
  obtain ⟨hb0, p0, r0, hs0⟩ := boxes2 w 27 51 #[.int .i64 3, .slice L ls.length lc, .slice A ts.length ac] #[.int .i64 0, .int .i64 0, .string ⟨#[]⟩, .slice none 0 0, .slice none 0 0]
  go_enter Try.func68, Try.ntmps68
  go_upto_region 7 with fail
  generalize (w.alloc (.cells #[.int .i64 3, .slice L ls.length lc, .slice A ts.length ac] 27)).alloc (.cells #[.int .i64 0, .int .i64 0, .string ⟨#[]⟩, .slice none 0 0, .slice none 0 0] 51) = w0 at *
  have hl0 := hl.up' hb0
  have HZ := Lib.hid hs0
  clear hs0 hl
  have hpl := p0.lt
  have hE0b : Below w0.heap.size w0 (w0.alloc (.cells #[] 9)) := (Below.refl _ _).alloc (Nat.le_refl _) _
  have hE0 : (w0.alloc (.cells #[] 9)).ownsRow w0.heap.size 9 1 (.slice (some ⟨w0.heap.size, 0, none⟩) 0 0) 0 [] := World.ownsRow_lit w0 #[] 0 (Nat.le_refl _) (Nat.zero_le _) rfl
  have q1 : (w0.alloc (.cells #[] 9)).cell? ⟨w.heap.size, 1, none⟩ = some (.slice L ls.length lc) := (hE0b.cell (p := ⟨w.heap.size, 1, none⟩) hpl).trans (p0.cell 1)
  go_wp2_with (at_builtin; refine wpList_append_cells _ rfl (.tmp 15) (.tmp 17) _ rfl w0.heap.size 9 i0 (.string ⟨#[]⟩) 1 16 Try.underlying24 hi hz0 hz1 hz2 rfl (by decide) _ 0 [] rfl hE0 L ls.length lc (strVals ls) rfl (by simp [strVals]) (hl0.up' hE0b).cells (strVals_one _) (by unfold maxLen; omega) (by omega) hE0b.size ?_; intro v1 w1 hown1 hg1; obtain ⟨A1, c1, rfl, hrow0⟩ := own_form (ss := ls) hown1 (by simp))
  have hB1 := hE0b.grown hg1 hE0b.size (fun q hq => (hE0.lt q hq).1)
  clear q1 hown1 hg1 hE0 hE0b
  have ho0 : Whole1 (w1.alloc (.cells #[.int .i64 3, .int .i64 0, .string ⟨#[]⟩, .slice A1 ls.length c1, .slice none 0 0] 51)) w1.heap.size 51 #[.int .i64 3, .int .i64 0, .string ⟨#[]⟩, .slice A1 ls.length c1, .slice none 0 0] := Whole1.new _ _ _
  have hrow : ls = [] ∨ ∃ g, A1 = some ⟨g, 0, none⟩ ∧ w0.heap.size ≤ g ∧ w1.heap.size ≠ g ∧ RowStrs (w1.alloc (.cells #[.int .i64 3, .int .i64 0, .string ⟨#[]⟩, .slice A1 ls.length c1, .slice none 0 0] 51)) g ls := hrow0.imp id fun ⟨g, h1, h2, h3⟩ => ⟨g, h1, h2, fun e => by have := h3.lt; omega, h3.below ((Below.refl _ _).alloc (Nat.le_refl _) _) h3.lt⟩
  have hbc : Below w0.heap.size w0 (w1.alloc (.cells #[.int .i64 3, .int .i64 0, .string ⟨#[]⟩, .slice A1 ls.length c1, .slice none 0 0] 51)) := hB1.alloc hB1.size _
  have hpo := hB1.size
  have HROW0 := Lib.hid hrow
  have HO0 := Lib.hid ho0
  clear hrow ho0 hrow0 hB1
  go_wp2
  generalize w1.alloc (.cells #[.int .i64 3, .int .i64 0, .string ⟨#[]⟩, .slice A1 ls.length c1, .slice none 0 0] 51) = wc at *
  generalize w1.heap.size = po at *
  have hrow := HROW0.out
  have ho0 := HO0.out
  have p1 := p0.below hbc p0.lt
  have r1 := r0.below hbc r0.lt
  have hb1 := hb0.trans (hbc.mono hb0.size)
  have ha1 := ha.up hb1
  have hpl : w.heap.size < wc.heap.size := p1.lt
  have hrl : w.heap.size + 1 < wc.heap.size := r1.lt
  have hol : po < wc.heap.size := ho0.lt
  have hpo' : w.heap.size + 2 ≤ po := by have := HZ.out; omega
  have HROW := Lib.hid hrow
  have hm := ha1.1
  have hmn := Lib.hid hm
  obtain ⟨i1, hi1, hy0, hy1, hy2⟩ := info_parts infoValue
  clear p0 r0 hl0 hrow hm
  go_wp2
  go_loopw [4] (fun i wr => ∃ (k : Nat) (c2 : Nat) (A2 : Option Addr), k ≤ ts.length ∧ i = .int .i64 k ∧ Whole1 wr po 51 #[.int .i64 3, .int .i64 0, .string ⟨#[]⟩, .slice A1 ls.length c1, .slice A2 k c2] ∧ VGather wr wc.heap.size (.slice A2 k c2) k (defVas ts) ∧ (∀ q, q < wc.heap.size → q ≠ po → wr.heap[q]? = wc.heap[q]?) ∧ Below w.heap.size w wr ∧ wc.heap.size ≤ wr.heap.size) (fun i _ => ts.length - (intOf i).toNat)
  case atStart => exact ⟨0, 0, none, Nat.zero_le _, rfl, ho0, VGather.start _ _ _, fun _ _ _ => rfl, hb1, Nat.le_refl _⟩
  case round =>
    obtain ⟨k, c2, A2, hk, rfl, ho, hga, hold, hb, hsz1⟩ := hrel
    have HOLD := Lib.hid hold
    have p2 : Whole1 wr w.heap.size 27 #[.int .i64 3, .slice L ls.length lc, .slice A ts.length ac] := (hold _ hpl (by omega)).trans p1
    have q2 : wr.cell? ⟨w.heap.size, 2, none⟩ = some (.slice A ts.length ac) := p2.cell 2
    clear hold
    by_cases hlt : k < ts.length
    · obtain ⟨xs, vs, lo, hi', hG⟩ := hga
      obtain ⟨b, off, M, mc, C, cc, rfl, hbl, e0, e1, e2, _, _, _, _, ht⟩ := (ha.below hb).elem k hlt
      have hbs := hb.size
      have HT := Lib.hid (HALL.out k hlt _ wr.drew ((ht.more hbs).up (Below.refl _ _).drew))
      have HG := Lib.hid hG
      have HO := Lib.hid ho
      have o2 : wr.cell? ⟨po, 4, none⟩ = some (.slice A2 k c2) := ho.cell 4
      have f2 : wr.frozen? ⟨po, 4, none⟩ = false := ho.free 4
      have hbw : b < wr.heap.size := by omega
      have hpw : w.heap.size < wr.heap.size := by omega
      have how : po < wr.heap.size := by omega
      have hown0 := hG.own
      have HOWN := Lib.hid hown0
      have hrl2 := HRL.out k hlt
      clear hG ho ht p2 hown0
      go_wp2
      go_region_law (first
        | (go_simp; go_at_call 68; refine HT.out.mono ?_; rintro e w1 ⟨v1, rfl, ht1, hb1⟩; have HT1 := Lib.hid ht1; obtain ⟨T1, U1, T2, U2, _, rfl, _⟩ := ht1.open; clear ht1; have hb1' := (Below.refl wr.heap.size wr).drew.trans hb1; have y2 := (hb1'.cell (p := ⟨po, 4, none⟩) how).trans o2; have y3 := ((hb1'.alloc hb1'.size (.cells #[.int .i64 (defVa ts[k]).kind, .int .i64 (defVa ts[k]).num, .string (defVa ts[k]).name, .slice T1 (defVa ts[k]).labels.length U1, .slice T2 (defVa ts[k]).args.length U2] 51)).cell (p := ⟨po, 4, none⟩) how).trans o2; have hown2 := World.ownsRow.alloc (own_keep5 HOWN.out (fun g hg => hb1'.block g (HOWN.out.lt g hg).2)) (.cells #[.int .i64 (defVa ts[k]).kind, .int .i64 (defVa ts[k]).num, .string (defVa ts[k]).name, .slice T1 (defVa ts[k]).labels.length U1, .slice T2 (defVa ts[k]).args.length U2] 51); have hnews := news5 w1 51 (.int .i64 (defVa ts[k]).kind) (.int .i64 (defVa ts[k]).num) (.string (defVa ts[k]).name) (.slice T1 (defVa ts[k]).labels.length U1) (.slice T2 (defVa ts[k]).args.length U2))
        | (refine step_append_lies _ (by rfl) (.tmp 28) (.tmp 35) _ (by rfl) wc.heap.size 51 i1 (.agg #[.int .i64 0, .int .i64 0, .string ⟨#[]⟩, .slice none 0 0, .slice none 0 0]) 5 80 Try.underlying49 hi1 hy0 hy1 hy2 rfl (by decide) _ k xs (by rfl) hown2 ⟨w1.heap.size, 0, none⟩ 1 1 [.int .i64 (defVa ts[k]).kind, .int .i64 (defVa ts[k]).num, .string (defVa ts[k]).name, .slice T1 (defVa ts[k]).labels.length U1, .slice T2 (defVa ts[k]).args.length U2] (by rfl) rfl hnews.1 hnews.2 (by omega) (by unfold maxLen; omega) (by omega) (by have := hb1'.size; simp; omega) (w1.heap.size + 1) (by simp) ?_; intro g cap w3 hown3 hg3 hat3 hlt3; have hvb := fun q (hq : (Value.slice A2 k c2).ownBlock = some q) => (HOWN.out.lt q hq).1; have ho3 : Whole1 w3 po 51 #[.int .i64 3, .int .i64 0, .string ⟨#[]⟩, .slice A1 ls.length c1, .slice A2 k c2] := ((hg3.block po (by have := hb1'.size; simp; omega) (fun e => by have := hvb po e.symm; omega)).trans (Below.heap_alloc _ _ _ (by have := hb1'.size; omega))).trans ((hb1'.block po how).trans HO.out); have m2 : w3.cell? ⟨po, 4, none⟩ = some (.slice A2 k c2) := ho3.cell 4; have n2 : w3.frozen? ⟨po, 4, none⟩ = false := ho3.free 4))
      all_goals
        go_wp2
        go_roundw
        case rel => exact ⟨k + 1, cap, some ⟨g, 0, none⟩, by omega, by go_num, vcopy_rel hrl2 hol (by omega) hsz1 HG.out hb1' (by rw [defVas_at ts k hlt hrl2]; exact HT1.out) hown3 hg3 hat3 ho3 HOLD.out hb⟩
        case measure => simp [intOf]; omega
    · have hke : k = ts.length := by omega
      subst hke
      have r2 : Whole1 wr (w.heap.size + 1) 51 #[.int .i64 0, .int .i64 0, .string ⟨#[]⟩, .slice none 0 0, .slice none 0 0] := (HOLD.out _ hrl (by omega)).trans r1
      have o0 : wr.cell? ⟨po, 0, none⟩ = some (.int .i64 3) := ho.cell 0
      have o1 : wr.cell? ⟨po, 1, none⟩ = some (.int .i64 0) := ho.cell 1
      have o2 : wr.cell? ⟨po, 2, none⟩ = some (.string ⟨#[]⟩) := ho.cell 2
      have o3 : wr.cell? ⟨po, 3, none⟩ = some (.slice A1 ls.length c1) := ho.cell 3
      have o4 : wr.cell? ⟨po, 4, none⟩ = some (.slice A2 ts.length c2) := ho.cell 4
      have d0 : wr.cell? ⟨w.heap.size + 1, 0, none⟩ = some (.int .i64 0) := r2.cell 0
      have e0 : wr.frozen? ⟨w.heap.size + 1, 0, none⟩ = false := r2.free 0
      have d1 : wr.cell? ⟨w.heap.size + 1, 1, none⟩ = some (.int .i64 0) := r2.cell 1
      have e1 : wr.frozen? ⟨w.heap.size + 1, 1, none⟩ = false := r2.free 1
      have d2 : wr.cell? ⟨w.heap.size + 1, 2, none⟩ = some (.string ⟨#[]⟩) := r2.cell 2
      have e2 : wr.frozen? ⟨w.heap.size + 1, 2, none⟩ = false := r2.free 2
      have d3 : wr.cell? ⟨w.heap.size + 1, 3, none⟩ = some (.slice none 0 0) := r2.cell 3
      have e3 : wr.frozen? ⟨w.heap.size + 1, 3, none⟩ = false := r2.free 3
      have d4 : wr.cell? ⟨w.heap.size + 1, 4, none⟩ = some (.slice none 0 0) := r2.cell 4
      have e4 : wr.frozen? ⟨w.heap.size + 1, 4, none⟩ = false := r2.free 4
      have hdone : VasIn wr (Span wc.heap.size wr.heap.size) A2 (defVas ts) := by
        have h1 := HRN.out
        rw [← h1] at hga
        exact hga.done (by rw [h1]; exact hmn.out)
      have HD := Lib.hid hdone
      clear p2 r2 ho hga hdone q2
      have q2 : wr.cell? ⟨w.heap.size, 2, none⟩ = some (.slice A ts.length ac) := by
        have : Whole1 wr w.heap.size 27 #[.int .i64 3, .slice L ls.length lc, .slice A ts.length ac] := (HOLD.out _ hpl (by omega)).trans p1
        exact this.cell 2
      go_wp2
      refine bodyPost_ret (v := .agg #[.int .i64 3, .int .i64 0, .string ⟨#[]⟩, .slice A1 ls.length c1, .slice A2 ts.length c2]) (by simp [results, Try.results68, go_sem, d0, d1, d2, d3, d4]) rfl ⟨_, rfl, ?_, ?_⟩
      · have hk' : ∀ q, q ≠ w.heap.size + 1 → (((((wr.setCell ⟨w.heap.size + 1, 0, none⟩ (.int .i64 3)).setCell ⟨w.heap.size + 1, 1, none⟩ (.int .i64 0)).setCell ⟨w.heap.size + 1, 2, none⟩ (.string ⟨#[]⟩)).setCell ⟨w.heap.size + 1, 3, none⟩ (.slice A1 ls.length c1)).setCell ⟨w.heap.size + 1, 4, none⟩ (.slice A2 ts.length c2)).heap[q]? = wr.heap[q]? := fun q hq => by
          rw [Below.heap_setCell _ _ _ _ hq, Below.heap_setCell _ _ _ _ hq, Below.heap_setCell _ _ _ _ hq, Below.heap_setCell _ _ _ _ hq, Below.heap_setCell _ _ _ _ hq]
        have hS : (((((wr.setCell ⟨w.heap.size + 1, 0, none⟩ (.int .i64 3)).setCell ⟨w.heap.size + 1, 1, none⟩ (.int .i64 0)).setCell ⟨w.heap.size + 1, 2, none⟩ (.string ⟨#[]⟩)).setCell ⟨w.heap.size + 1, 3, none⟩ (.slice A1 ls.length c1)).setCell ⟨w.heap.size + 1, 4, none⟩ (.slice A2 ts.length c2)).heap.size = wr.heap.size := by simp [World.setCell]
        rw [hS]
        have hD2 := HD.out.keep (w' := (((((wr.setCell ⟨w.heap.size + 1, 0, none⟩ (.int .i64 3)).setCell ⟨w.heap.size + 1, 1, none⟩ (.int .i64 0)).setCell ⟨w.heap.size + 1, 2, none⟩ (.string ⟨#[]⟩)).setCell ⟨w.heap.size + 1, 3, none⟩ (.slice A1 ls.length c1)).setCell ⟨w.heap.size + 1, 4, none⟩ (.slice A2 ts.length c2))) fun b hb' _ => hk' b (by have := hb'.1; omega)
        have hzz := HZ.out
        have hrn := HRN.out
        rcases HROW.out with hl0 | ⟨g, hA1, hg0, hgp, hrg⟩
        · have h9 := VaIn.of (t := (.mk 3 0 ⟨#[]⟩ ls (defVas ts))) (L := A1) (lc := c1) (ac := c2) (gl := 0) (S := Span w.heap.size wr.heap.size) HNM.out hn HN.out (.inl hl0) hD2 fun b hb' => ⟨⟨by have := hb'.1; omega, hb'.2⟩, by have := hb'.1; omega⟩
          simp only [Va.kind, Va.num, Va.name, Va.labels, Va.args, hrn] at h9
          exact h9
        · have hgl := hrg.lt
          have h9 := VaIn.of (t := (.mk 3 0 ⟨#[]⟩ ls (defVas ts))) (L := A1) (lc := c1) (ac := c2) (gl := g) (S := Span w.heap.size wr.heap.size) HNM.out hn HN.out (.inr ⟨hA1, ⟨by omega, by omega⟩, (hrg.same (HOLD.out g hgl fun e => hgp e.symm)).same (hk' g (by omega))⟩) hD2 fun b hb' => ⟨⟨by have := hb'.1; omega, hb'.2⟩, by have := hb'.1; omega⟩
          simp only [Va.kind, Va.num, Va.name, Va.labels, Va.args, hrn] at h9
          exact h9
      · exact ((((hb.setCell (by simp) _).setCell (by simp) _).setCell (by simp) _).setCell (by simp) _).setCell (by simp) _

end Go.Proofs.Ytinkanbaiflhdaa
