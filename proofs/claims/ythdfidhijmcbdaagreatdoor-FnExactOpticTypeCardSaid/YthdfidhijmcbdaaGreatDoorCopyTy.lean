/- impl.copyType makes a new tree. -/
import Derived.Test.YthdfidhijmcbdaaGreatDoorSpecPart
import Derived.Test.YthdfidhijmcbdaaGreatDoorCopyNames
import Derived.Deep.AppendLies
import Derived.Deep.RegionHeld3
namespace Go.Proofs.YthdfidhijmcbdaaGreatDoor
set_option maxRecDepth 100000
open Go.RowKit

def CopyTwo (t : Ty) : Prop := ∀ (v : Value) (w : World), TyAt w w.heap.size v t → szTy t ≤ 1048576 → Calls Tryz.prog 35 #[v] w (NewTy w t)

set_option maxHeartbeats 4000000 in
theorem copyType_of (k0 : Int) (ls : List ByteArray) (ts : List Ty) (hall : ∀ i, (h : i < ts.length) → CopyTwo ts[i]) : CopyTwo (.mk k0 ls ts) := by
  intro v w hv hsz
  obtain ⟨L, lc, A, ac, rfl, hn, hz, hl, ha⟩ := hv.open
  rw [szTy_eq] at hsz
  simp only [Ty.kind, Ty.labels, Ty.args] at *
  have hls : ∀ i, (h : i < ls.length) → ls[i].size ≤ 1048576 := fun i h => by have := size_le_sumSizes ls i h; omega
  have hcp := Lib.hid (fun W h => copyNames_any L lc ls W h (by omega) hls)
  have hm := ha.1
  unfold maxLen at hm
  have HALL := Lib.hid hall
  have HN := Lib.hid hz
  have HNN := Lib.hid hn
  clear hall hz hv hls hn
  obtain ⟨hb0, p0, r0, hs0⟩ := boxes2 w 27 27 #[.int .i64 k0, .slice L ls.length lc, .slice A ts.length ac] #[.int .i64 0, .slice none 0 0, .slice none 0 0]
  have ha0 := ha.up hb0
  have hl0 := hl.up' hb0
  clear ha hl
  go_enter Tryz.func35, Tryz.ntmps35
  go_wp2
  generalize (w.alloc (.cells #[.int .i64 k0, .slice L ls.length lc, .slice A ts.length ac] 27)).alloc (.cells #[.int .i64 0, .slice none 0 0, .slice none 0 0] 27) = w0 at *
  have hpl := p0.lt
  have hrl := r0.lt
  have HZ := Lib.hid hs0
  obtain ⟨i1, hi1, hy0, hy1, hy2⟩ := info_parts infoType
  have hle := szTys_len ts
  clear hs0
  go_loopw [3, 9] (fun v i wr => ∃ k : Nat, k ≤ ts.length ∧ i = .int .i64 k ∧ Gather wr w0.heap.size v k ts ∧ Below w0.heap.size w0 wr) (fun _ i _ => ts.length - (intOf i).toNat)
  case atStart => exact ⟨0, Nat.zero_le _, rfl, Gather.start _ _ _, Below.refl _ _⟩
  case round =>
    obtain ⟨k, hk, rfl, hga, hb⟩ := hrel
    have hbs := hb.size
    by_cases hlt : k < ts.length
    · obtain ⟨b, off, M, mc, C, cc, rfl, hbl, e0, e1, e2, _, _, _, _, ht⟩ := (ha0.below hb).elem k hlt
      have hpt := szTy_part ts k hlt
      have hbx := (Below.refl wr.heap.size wr).alloc (Nat.le_refl _) (.cells #[.int .i64 ts[k].kind, .slice M ts[k].labels.length mc, .slice C ts[k].args.length cc] 27)
      have HT := Lib.hid (HALL.out k hlt _ _ ((ht.more hbs).up hbx) (by omega))
      obtain ⟨xs, vs, lo, hi', hG0⟩ := hga.below hbx
      have HG := Lib.hid hG0
      have HOWN := Lib.hid hG0.own
      have hbx' := hb.trans (hbx.mono hbs)
      have hsx := hbx'.size
      have HBX := Lib.hid hbx'
      clear hga hG0 ht hbx hbx' hb
      go_wp2_with fail
      generalize wr.alloc (.cells #[.int .i64 ts[k].kind, .slice M ts[k].labels.length mc, .slice C ts[k].args.length cc] 27) = wx at *
      refine HT.out.mono ?_
      rintro e w1 ⟨v1, rfl, ht1, hb1⟩
      have HT1 := Lib.hid ht1
      obtain ⟨T1, U1, T2, U2, _, rfl, _⟩ := ht1.open
      clear ht1 e0 e1 e2
      have hs1 := hb1.size
      have hown1 := (own_keep HOWN.out fun g hg => hb1.block g (HOWN.out.lt g hg).2).alloc (.cells #[.int .i64 ts[k].kind, .slice T1 ts[k].labels.length U1, .slice T2 ts[k].args.length U2] 27)
      have hnews := news3 w1 27 (.int .i64 ts[k].kind) (.slice T1 ts[k].labels.length U1) (.slice T2 ts[k].args.length U2)
      have HB1 := Lib.hid hb1
      clear hb1
      go_wp2_with (at_builtin; refine wpList_append_lies _ rfl (.tmp 13) (.tmp 16) _ rfl w0.heap.size 27 i1 (.agg #[.int .i64 0, .slice none 0 0, .slice none 0 0]) 3 56 Tryz.underlying25 hi1 hy0 hy1 hy2 rfl (by decide) _ k xs rfl hown1 ⟨w1.heap.size, 0, none⟩ 1 1 [.int .i64 ts[k].kind, .slice T1 ts[k].labels.length U1, .slice T2 ts[k].args.length U2] rfl rfl hnews.1 hnews.2 (by omega) (by unfold maxLen; omega) (by omega) (by simp; omega) (w1.heap.size + 1) (by simp) ?_; intro g cap w3 hown3 hg3 hat3 hlt3)
      have HOWN3 := Lib.hid hown3
      have HG3 := Lib.hid hg3
      have HAT := Lib.hid hat3
      clear hown3 hg3 hat3 hown1 hnews
      go_wp2
      go_roundw
      case rel =>
        refine ⟨k + 1, by omega, by go_num, HG.out.step HB1.out (by omega) hlt HT1.out HOWN3.out HG3.out HAT.out, ?_⟩
        have hvb := fun g hg => (HOWN.out.lt g hg).1
        exact ((HBX.out.trans (HB1.out.mono hsx)).alloc (by omega) _).grown HG3.out (by simp; omega) hvb
      case measure => simp [intOf]; omega
    · have hke : k = ts.length := by omega
      subst hke
      have p1 := p0.below hb hpl
      have r1 := r0.below hb hrl
      have c0 : wr.cell? ⟨w.heap.size, 0, none⟩ = some (.int .i64 k0) := p1.cell 0
      have c1 : wr.cell? ⟨w.heap.size, 1, none⟩ = some (.slice L ls.length lc) := p1.cell 1
      obtain ⟨A2, c2, rfl⟩ : ∃ A2 c2, u3 = .slice A2 ts.length c2 := by
        obtain ⟨xs, vs, lo, hi', hG⟩ := hga
        rcases hG.own.2 with ⟨h1, h2⟩ | ⟨g, cap, cur, h1, _⟩
        · exact ⟨none, 0, by rw [h1, h2]⟩
        · exact ⟨_, _, h1⟩
      have hdone := hga.done (by unfold maxLen; omega)
      have HD := Lib.hid hdone
      have hl1 := (hl0.below hb).more hb.size
      have ed := (Below.refl wr.heap.size wr).drew
      have HCN := Lib.hid (hcp.out wr.drew hl1)
      have hplr : w.heap.size < wr.heap.size := p1.lt
      have hrlr : w.heap.size + 1 < wr.heap.size := r1.lt
      have j0 : wr.drew.cell? ⟨w.heap.size, 0, none⟩ = some (.int .i64 k0) := c0
      have j1 : wr.drew.cell? ⟨w.heap.size, 1, none⟩ = some (.slice L ls.length lc) := c1
      have HB := Lib.hid hb
      clear hga hdone hl1 p1 hcp hb
      go_upto_region 7 with fail
      go_region_held3 (fun x : World => x.cell? ⟨w.heap.size, 0, none⟩ = some (.int .i64 k0) ∧ x.cell? ⟨w.heap.size, 1, none⟩ = some (.slice L ls.length lc))
        (first | (with_reducible exact ⟨j0, j1⟩) | (with_reducible exact ⟨m0, m1⟩) | (with_reducible exact ⟨s0, s1⟩))
        (first | (go_at_call 71; refine HCN.out.mono ?_; rintro e wC ⟨vn, rfl, hownC, hb1⟩; obtain ⟨A1, c1', rfl, hrow⟩ := own_form (ss := ls) hownC rfl; have hbC := ed.trans hb1; have m0 := (hbC.cell (p := ⟨w.heap.size, 0, none⟩) hplr).trans c0; have m1 := (hbC.cell (p := ⟨w.heap.size, 1, none⟩) hplr).trans c1; have rC := r1.below hbC hrlr; have d0 : wC.cell? ⟨w.heap.size + 1, 0, none⟩ = some (.int .i64 0) := rC.cell 0; have d1 : wC.cell? ⟨w.heap.size + 1, 1, none⟩ = some (.slice none 0 0) := rC.cell 1; have d2 : wC.cell? ⟨w.heap.size + 1, 2, none⟩ = some (.slice none 0 0) := rC.cell 2; have f0 : wC.frozen? ⟨w.heap.size + 1, 0, none⟩ = false := rC.free 0; have f1 : wC.frozen? ⟨w.heap.size + 1, 1, none⟩ = false := rC.free 1; have f2 : wC.frozen? ⟨w.heap.size + 1, 2, none⟩ = false := rC.free 2; have hbS := (((Below.refl (w.heap.size + 1) wC).setCell (p := ⟨w.heap.size + 1, 0, none⟩) (Nat.le_refl _) (.int .i64 k0)).setCell (p := ⟨w.heap.size + 1, 1, none⟩) (Nat.le_refl _) (.slice A1 ls.length c1')).setCell (p := ⟨w.heap.size + 1, 2, none⟩) (Nat.le_refl _) (.slice A2 ts.length c2); have s0 := (hbS.cell (p := ⟨w.heap.size, 0, none⟩) (Nat.lt_succ_self _)).trans m0; have s1 := (hbS.cell (p := ⟨w.heap.size, 1, none⟩) (Nat.lt_succ_self _)).trans m1))
      have HRow := Lib.hid hrow
      have HbC := Lib.hid hbC
      clear hrow hownC hb1 hbS s0 s1 m0 m1 rC
      go_wp2
      refine bodyPost_ret (v := .agg #[.int .i64 k0, .slice A1 ls.length c1', .slice A2 ts.length c2]) (by simp [results, Tryz.results35, go_sem, d0, d1, d2]) rfl ⟨_, rfl, ?_, ?_⟩
      · have hS : (((wC.setCell ⟨w.heap.size + 1, 0, none⟩ (.int .i64 k0)).setCell ⟨w.heap.size + 1, 1, none⟩ (.slice A1 ls.length c1')).setCell ⟨w.heap.size + 1, 2, none⟩ (.slice A2 ts.length c2)).heap.size = wC.heap.size := by simp [World.setCell]
        have hk' : ∀ q, q ≠ w.heap.size + 1 → (((wC.setCell ⟨w.heap.size + 1, 0, none⟩ (.int .i64 k0)).setCell ⟨w.heap.size + 1, 1, none⟩ (.slice A1 ls.length c1')).setCell ⟨w.heap.size + 1, 2, none⟩ (.slice A2 ts.length c2)).heap[q]? = wC.heap[q]? := fun q hq => by
          rw [Below.heap_setCell _ _ _ _ hq, Below.heap_setCell _ _ _ _ hq, Below.heap_setCell _ _ _ _ hq]
        rw [hS]
        have hzz := HZ.out
        have hsC := HbC.out.size
        have hD2 := (HD.out.keep (w' := wC) fun b hb' hbl => HbC.out.block b hbl).keep (w' := (((wC.setCell ⟨w.heap.size + 1, 0, none⟩ (.int .i64 k0)).setCell ⟨w.heap.size + 1, 1, none⟩ (.slice A1 ls.length c1')).setCell ⟨w.heap.size + 1, 2, none⟩ (.slice A2 ts.length c2))) fun b hb' _ => hk' b (by have := hb'.1; omega)
        rcases HRow.out with hl0' | ⟨g, hA1, hg0, hrg⟩
        · exact TyIn.of (t := .mk k0 ls ts) (gl := 0) HNN.out HN.out (.inl hl0') hD2 fun b hb' => ⟨⟨by have := hb'.1; omega, by have := hb'.2; omega⟩, by have := hb'.1; omega⟩
        · have hgl := hrg.lt
          have hg1 : wr.heap.size ≤ g := hg0
          exact TyIn.of (t := .mk k0 ls ts) (gl := g) HNN.out HN.out (.inr ⟨hA1, ⟨by omega, by omega⟩, hrg.same (hk' g (by omega))⟩) hD2 fun b hb' => ⟨⟨by have := hb'.1; omega, by have := hb'.2; omega⟩, by have := hb'.2; omega⟩
      · have hbA := hb0.trans ((HB.out.trans (HbC.out.mono HB.out.size)).mono hb0.size)
        exact ((hbA.setCell (p := ⟨w.heap.size + 1, 0, none⟩) (Nat.le_succ _) _).setCell (p := ⟨w.heap.size + 1, 1, none⟩) (Nat.le_succ _) _).setCell (p := ⟨w.heap.size + 1, 2, none⟩) (Nat.le_succ _) _

theorem copyType_any (t : Ty) : CopyTwo t := by
  induction t using Ty.ind with
  | h k ls ts ih => exact copyType_of k ls ts ih

end Go.Proofs.YthdfidhijmcbdaaGreatDoor
