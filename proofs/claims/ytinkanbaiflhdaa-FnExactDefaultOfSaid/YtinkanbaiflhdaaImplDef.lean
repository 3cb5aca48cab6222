/- impl.DefaultOf. -/
import Derived.Test.YtinkanbaiflhdaaSpecDef
import Derived.Test.YtinkanbaiflhdaaImplValid
import Derived.Test.YtinkanbaiflhdaaCopyNames
import Derived.Deep.RegionHeld3
namespace Go.Proofs.Ytinkanbaiflhdaa
set_option maxRecDepth 100000
open Go.RowKit
attribute [local go_sem ↓] Go.wp_at_zero Go.wp_at_succ

theorem td_intForm_intForm (x : Value) (w : World) : (Instr.typeAssert (.iface 112 x) 70 112 true).run Try.prog w = .ok (.tuple #[x, .bool true]) w := by kernel_rfl
theorem td_boolForm_intForm (x : Value) (w : World) : (Instr.typeAssert (.iface 113 x) 70 112 true).run Try.prog w = .ok (.tuple #[.agg #[], .bool false]) w := by kernel_rfl
theorem td_boolForm_boolForm (x : Value) (w : World) : (Instr.typeAssert (.iface 113 x) 70 113 true).run Try.prog w = .ok (.tuple #[x, .bool true]) w := by kernel_rfl
theorem td_recForm_intForm (x : Value) (w : World) : (Instr.typeAssert (.iface 73 x) 70 112 true).run Try.prog w = .ok (.tuple #[.agg #[], .bool false]) w := by kernel_rfl
theorem td_recForm_boolForm (x : Value) (w : World) : (Instr.typeAssert (.iface 73 x) 70 113 true).run Try.prog w = .ok (.tuple #[.agg #[], .bool false]) w := by kernel_rfl
theorem td_recForm_recForm (x : Value) (w : World) : (Instr.typeAssert (.iface 73 x) 70 73 true).run Try.prog w = .ok (.tuple #[x, .bool true]) w := by kernel_rfl
theorem td_sumForm_intForm (x : Value) (w : World) : (Instr.typeAssert (.iface 75 x) 70 112 true).run Try.prog w = .ok (.tuple #[.agg #[], .bool false]) w := by kernel_rfl
theorem td_sumForm_boolForm (x : Value) (w : World) : (Instr.typeAssert (.iface 75 x) 70 113 true).run Try.prog w = .ok (.tuple #[.agg #[], .bool false]) w := by kernel_rfl
theorem td_sumForm_recForm (x : Value) (w : World) : (Instr.typeAssert (.iface 75 x) 70 73 true).run Try.prog w = .ok (.tuple #[.agg #[.slice none 0 0, .slice none 0 0], .bool false]) w := by kernel_rfl
theorem td_sumForm_sumForm (x : Value) (w : World) : (Instr.typeAssert (.iface 75 x) 70 75 true).run Try.prog w = .ok (.tuple #[x, .bool true]) w := by kernel_rfl
theorem td_listForm_intForm (x : Value) (w : World) : (Instr.typeAssert (.iface 115 x) 70 112 true).run Try.prog w = .ok (.tuple #[.agg #[], .bool false]) w := by kernel_rfl
theorem td_listForm_boolForm (x : Value) (w : World) : (Instr.typeAssert (.iface 115 x) 70 113 true).run Try.prog w = .ok (.tuple #[.agg #[], .bool false]) w := by kernel_rfl
theorem td_listForm_recForm (x : Value) (w : World) : (Instr.typeAssert (.iface 115 x) 70 73 true).run Try.prog w = .ok (.tuple #[.agg #[.slice none 0 0, .slice none 0 0], .bool false]) w := by kernel_rfl
theorem td_listForm_sumForm (x : Value) (w : World) : (Instr.typeAssert (.iface 115 x) 70 75 true).run Try.prog w = .ok (.tuple #[.agg #[.slice none 0 0, .slice none 0 0], .bool false]) w := by kernel_rfl
theorem td_listForm_listForm (x : Value) (w : World) : (Instr.typeAssert (.iface 115 x) 70 115 true).run Try.prog w = .ok (.tuple #[x, .bool true]) w := by kernel_rfl
set_option maxHeartbeats 8000000 in
theorem implDef_of (k0 : Int) (ls : List ByteArray) (ts : List Ty) (hall : ∀ i, (h : i < ts.length) → DefOne 69 ts[i]) : DefOne 69 (.mk k0 ls ts) := by
  intro v w hv hf hsz
  have hse := szTy_eq (.mk k0 ls ts)
  have hv0 := hv
  obtain ⟨L, lc, A, ac, rfl, hn, hz, hl, ha⟩ := hv.open
  simp only [Ty.kind, Ty.labels, Ty.args] at *
  obtain ⟨hnode, hf2⟩ := formTy_mk _ _ _ hf
  have hsub := Lib.hid (fun i (h : i < ts.length) (v : Value) (W : World) h2 => hall i h v W h2 (hf2 i h) (by have := szTy_part ts i h; omega))
  have hkinds := Lib.hid (nodeB_kind _ _ _ hnode)
  have hnl : ls.length < maxLen := by unfold maxLen; omega
  have hls : ∀ i, (h : i < ls.length) → ls[i].size ≤ 1048576 := fun i h => by have := size_le_sumSizes ls i h; omega
  have hm := ha.1
  unfold maxLen at hm
  have htl := szTys_len ts
  have HLS := Lib.hid hls
  have HN := Lib.hid hz
  have HNN := Lib.hid hn
  have HNT := Lib.hid hnode
  have HLW := Lib.hid hl
  have HAW := Lib.hid ha
  obtain ⟨hb0, p0, r0, hs0⟩ := boxes2 w 27 51 #[.int .i64 k0, .slice L ls.length lc, .slice A ts.length ac] #[.int .i64 0, .int .i64 0, .string ⟨#[]⟩, .slice none 0 0, .slice none 0 0]
  have HV := Lib.hid (formOf_any k0 ls ts L A lc ac _ (hv0.up hb0) hnl)
  have HZ := Lib.hid hs0
  clear hall hv hv0 hf hf2 hn hz hl ha hnode hs0 p0 hls
  go_enter Try.func69, Try.ntmps69
  go_wp2_with fail
  generalize (w.alloc (.cells #[.int .i64 k0, .slice L ls.length lc, .slice A ts.length ac] 27)).alloc (.cells #[.int .i64 0, .int .i64 0, .string ⟨#[]⟩, .slice none 0 0, .slice none 0 0] 51) = w0 at *
  refine HV.out.mono ?_
  rintro e w1 ⟨fv, rfl, hfv, hb1⟩
  have hb1' := hb0.trans (hb1.mono hb0.size)
  have r1 := r0.below hb1 r0.lt
  have hs1 : w.heap.size + 2 ≤ w1.heap.size := by have := HZ.out; have := hb1.size; omega
  clear HV hb0 hb1 r0
  rcases hfv with ⟨h0, _⟩ | ⟨_, hfv⟩
  · rw [HNT.out] at h0
    cases h0
  · rcases hfv with ⟨rfl, hts, rfl⟩ | ⟨rfl, hts, rfl⟩ | ⟨rfl, rfl⟩ | ⟨rfl, rfl⟩ | ⟨rfl, a, b, c, t1, rfl, ht1, rfl⟩
    · skip
      have haintForm := td_intForm_intForm
      have hb2 := (Below.refl w1.heap.size w1).alloc (Nat.le_refl _) (.cells #[] 112)
      have r2 := r1.below hb2 r1.lt
      have hb2' := hb1'.trans (hb2.mono hb1'.size)
      have d0 : (w1.alloc (.cells #[] 112)).cell? ⟨w.heap.size + 1, 0, none⟩ = some (.int .i64 0) := r2.cell 0
      have e0 : (w1.alloc (.cells #[] 112)).frozen? ⟨w.heap.size + 1, 0, none⟩ = false := r2.free 0
      have d1 : (w1.alloc (.cells #[] 112)).cell? ⟨w.heap.size + 1, 1, none⟩ = some (.int .i64 0) := r2.cell 1
      have e1 : (w1.alloc (.cells #[] 112)).frozen? ⟨w.heap.size + 1, 1, none⟩ = false := r2.free 1
      have d2 : (w1.alloc (.cells #[] 112)).cell? ⟨w.heap.size + 1, 2, none⟩ = some (.string ⟨#[]⟩) := r2.cell 2
      have e2 : (w1.alloc (.cells #[] 112)).frozen? ⟨w.heap.size + 1, 2, none⟩ = false := r2.free 2
      have d3 : (w1.alloc (.cells #[] 112)).cell? ⟨w.heap.size + 1, 3, none⟩ = some (.slice none 0 0) := r2.cell 3
      have e3 : (w1.alloc (.cells #[] 112)).frozen? ⟨w.heap.size + 1, 3, none⟩ = false := r2.free 3
      have d4 : (w1.alloc (.cells #[] 112)).cell? ⟨w.heap.size + 1, 4, none⟩ = some (.slice none 0 0) := r2.cell 4
      have e4 : (w1.alloc (.cells #[] 112)).frozen? ⟨w.heap.size + 1, 4, none⟩ = false := r2.free 4
      clear r1 r2 hts
      go_wp2
      refine bodyPost_ret (v := .agg #[.int .i64 1, .int .i64 0, .string ⟨#[]⟩, .slice none 0 0, .slice none 0 0]) (by simp [results, Try.results69, go_sem, d0, d1, d2, d3, d4]) rfl ⟨_, rfl, ?_, ?_⟩
      · rw [defVa_1]
        exact VaIn.leaf _ _ _ _ _ _ _ _ _ (by simp [ByteArray.size])
      · exact ((((hb2'.setCell (p := ⟨w.heap.size + 1, 0, none⟩) (Nat.le_succ _) _).setCell (p := ⟨w.heap.size + 1, 1, none⟩) (Nat.le_succ _) _).setCell (p := ⟨w.heap.size + 1, 2, none⟩) (Nat.le_succ _) _).setCell (p := ⟨w.heap.size + 1, 3, none⟩) (Nat.le_succ _) _).setCell (p := ⟨w.heap.size + 1, 4, none⟩) (Nat.le_succ _) _
    · skip
      have haintForm := td_boolForm_intForm
      have haboolForm := td_boolForm_boolForm
      have hb2 := (Below.refl w1.heap.size w1).alloc (Nat.le_refl _) (.cells #[] 113)
      have r2 := r1.below hb2 r1.lt
      have hb2' := hb1'.trans (hb2.mono hb1'.size)
      have d0 : (w1.alloc (.cells #[] 113)).cell? ⟨w.heap.size + 1, 0, none⟩ = some (.int .i64 0) := r2.cell 0
      have e0 : (w1.alloc (.cells #[] 113)).frozen? ⟨w.heap.size + 1, 0, none⟩ = false := r2.free 0
      have d1 : (w1.alloc (.cells #[] 113)).cell? ⟨w.heap.size + 1, 1, none⟩ = some (.int .i64 0) := r2.cell 1
      have e1 : (w1.alloc (.cells #[] 113)).frozen? ⟨w.heap.size + 1, 1, none⟩ = false := r2.free 1
      have d2 : (w1.alloc (.cells #[] 113)).cell? ⟨w.heap.size + 1, 2, none⟩ = some (.string ⟨#[]⟩) := r2.cell 2
      have e2 : (w1.alloc (.cells #[] 113)).frozen? ⟨w.heap.size + 1, 2, none⟩ = false := r2.free 2
      have d3 : (w1.alloc (.cells #[] 113)).cell? ⟨w.heap.size + 1, 3, none⟩ = some (.slice none 0 0) := r2.cell 3
      have e3 : (w1.alloc (.cells #[] 113)).frozen? ⟨w.heap.size + 1, 3, none⟩ = false := r2.free 3
      have d4 : (w1.alloc (.cells #[] 113)).cell? ⟨w.heap.size + 1, 4, none⟩ = some (.slice none 0 0) := r2.cell 4
      have e4 : (w1.alloc (.cells #[] 113)).frozen? ⟨w.heap.size + 1, 4, none⟩ = false := r2.free 4
      clear r1 r2 hts
      go_wp2
      refine bodyPost_ret (v := .agg #[.int .i64 2, .int .i64 0, .string ⟨#[]⟩, .slice none 0 0, .slice none 0 0]) (by simp [results, Try.results69, go_sem, d0, d1, d2, d3, d4]) rfl ⟨_, rfl, ?_, ?_⟩
      · rw [defVa_2]
        exact VaIn.leaf _ _ _ _ _ _ _ _ _ (by simp [ByteArray.size])
      · exact ((((hb2'.setCell (p := ⟨w.heap.size + 1, 0, none⟩) (Nat.le_succ _) _).setCell (p := ⟨w.heap.size + 1, 1, none⟩) (Nat.le_succ _) _).setCell (p := ⟨w.heap.size + 1, 2, none⟩) (Nat.le_succ _) _).setCell (p := ⟨w.heap.size + 1, 3, none⟩) (Nat.le_succ _) _).setCell (p := ⟨w.heap.size + 1, 4, none⟩) (Nat.le_succ _) _
    · skip
      have haintForm := td_recForm_intForm
      have haboolForm := td_recForm_boolForm
      have harecForm := td_recForm_recForm
      obtain ⟨hb2, f2, hs2⟩ := boxes1 w1 73 #[.slice L ls.length lc, .slice A ts.length ac]
      have hb2' := hb1'.trans (hb2.mono hb1'.size)
      have r2 := r1.below hb2 r1.lt
      have ha0 := (HAW.out.up hb1').up hb2
      have hl0 := Lib.hid ((HLW.out.up' hb1').up' hb2)
      have hs2 := hb2.size
      obtain ⟨i1, hi1, hy0, hy1, hy2⟩ := info_parts infoValue
      have HRL := Lib.hid (fun k (hk : k < ts.length) => (show k < (defVas ts).length by rw [defVas_len]; exact hk))
      have HRN := Lib.hid (defVas_len ts)
      have hfl : w1.heap.size < (w1.alloc (.cells #[.slice L ls.length lc, .slice A ts.length ac] 73)).heap.size := f2.lt
      clear r1
      go_wp2
      generalize w1.alloc (.cells #[.slice L ls.length lc, .slice A ts.length ac] 73) = w2 at *
      have hrl := r2.lt
      go_loopw [6, 27] (fun v i wr => ∃ k : Nat, k ≤ ts.length ∧ i = .int .i64 k ∧ VGather wr w2.heap.size v k (defVas ts) ∧ Below w2.heap.size w2 wr) (fun _ i _ => ts.length - (intOf i).toNat)
      case atStart => exact ⟨0, Nat.zero_le _, rfl, VGather.start _ _ _, Below.refl _ _⟩
      case round =>
        obtain ⟨k, hk, rfl, hga, hb⟩ := hrel
        have hbs := hb.size
        by_cases hlt : k < ts.length
        · obtain ⟨b, off, M, mc, C, cc, rfl, hbl, e0, e1, e2, _, _, _, _, ht⟩ := (ha0.below hb).elem k hlt
          have hbx := (Below.refl wr.heap.size wr).alloc (Nat.le_refl _) (.cells #[.int .i64 ts[k].kind, .slice M ts[k].labels.length mc, .slice C ts[k].args.length cc] 27)
          have HT := Lib.hid (hsub.out k hlt _ _ ((ht.more hbs).up hbx))
          obtain ⟨xs, vs, lo, hi', hG0⟩ := hga.below hbx
          have HG := Lib.hid hG0
          have HOWN := Lib.hid hG0.own
          have hbx' := hb.trans (hbx.mono hbs)
          have hsx := hbx'.size
          have HBX := Lib.hid hbx'
          have hrl2 := HRL.out k hlt
          clear hga hG0 ht hbx hbx' hb
          go_wp2_with fail
          generalize wr.alloc (.cells #[.int .i64 ts[k].kind, .slice M ts[k].labels.length mc, .slice C ts[k].args.length cc] 27) = wx at *
          refine HT.out.mono ?_
          rintro e w3 ⟨v1, rfl, ht1, hb1⟩
          have HT1 := Lib.hid ht1
          obtain ⟨T1, U1, T2, U2, _, rfl, _⟩ := ht1.open
          clear ht1 e0 e1 e2
          have hs1 := hb1.size
          have hown1 := (own_keep5 HOWN.out fun g hg => hb1.block g (HOWN.out.lt g hg).2).alloc (.cells #[.int .i64 (defVa ts[k]).kind, .int .i64 (defVa ts[k]).num, .string (defVa ts[k]).name, .slice T1 (defVa ts[k]).labels.length U1, .slice T2 (defVa ts[k]).args.length U2] 51)
          have hnews := news5 w3 51 (.int .i64 (defVa ts[k]).kind) (.int .i64 (defVa ts[k]).num) (.string (defVa ts[k]).name) (.slice T1 (defVa ts[k]).labels.length U1) (.slice T2 (defVa ts[k]).args.length U2)
          have HB1 := Lib.hid hb1
          clear hb1
          go_wp2_with (at_builtin; refine wpList_append_lies _ rfl (.tmp 31) (.tmp 34) _ rfl w2.heap.size 51 i1 (.agg #[.int .i64 0, .int .i64 0, .string ⟨#[]⟩, .slice none 0 0, .slice none 0 0]) 5 80 Try.underlying49 hi1 hy0 hy1 hy2 rfl (by decide) _ k xs rfl hown1 ⟨w3.heap.size, 0, none⟩ 1 1 [.int .i64 (defVa ts[k]).kind, .int .i64 (defVa ts[k]).num, .string (defVa ts[k]).name, .slice T1 (defVa ts[k]).labels.length U1, .slice T2 (defVa ts[k]).args.length U2] rfl rfl hnews.1 hnews.2 (by omega) (by unfold maxLen; omega) (by omega) (by simp; omega) (w3.heap.size + 1) (by simp) ?_; intro g cap w4 hown3 hg3 hat3 hlt3)
          have HOWN3 := Lib.hid hown3
          have HG3 := Lib.hid hg3
          have HAT := Lib.hid hat3
          clear hown3 hg3 hat3 hown1 hnews
          go_wp2
          go_roundw
          case rel =>
            refine ⟨k + 1, by omega, by go_num, HG.out.step HB1.out (by omega) hrl2 (by rw [defVas_at ts k hlt hrl2]; exact HT1.out) HOWN3.out HG3.out HAT.out, ?_⟩
            have hvb := fun g hg => (HOWN.out.lt g hg).1
            exact ((HBX.out.trans (HB1.out.mono hsx)).alloc (by omega) _).grown HG3.out (by simp; omega) hvb
          case measure => simp [intOf]; omega
        · have hke : k = ts.length := by omega
          subst hke
          have r3 := r2.below hb hrl
          have f3 := f2.below hb hfl
          obtain ⟨A2, c2, rfl⟩ : ∃ A2 c2, u6 = .slice A2 ts.length c2 := by
            obtain ⟨xs, vs, lo, hi', hG⟩ := hga
            rcases hG.own.2 with ⟨h1, h2⟩ | ⟨g, cap, cur, h1, _⟩
            · exact ⟨none, 0, by rw [h1, h2]⟩
            · exact ⟨_, _, h1⟩
          have hdone : VasIn wr (Span w2.heap.size wr.heap.size) A2 (defVas ts) := by
            have h1 := HRN.out
            rw [← h1] at hga
            exact hga.done (by rw [h1]; unfold maxLen; omega)
          have HD := Lib.hid hdone
          have HCN := Lib.hid (copyNames_any L lc ls wr (hl0.out.up' hb) (by omega) HLS.out)
          have hflr : w1.heap.size < wr.heap.size := f3.lt
          have hrlr : w.heap.size + 1 < wr.heap.size := r3.lt
          have y0 : wr.cell? ⟨w1.heap.size, 0, none⟩ = some (.slice L ls.length lc) := f3.cell 0
          have HB := Lib.hid hb
          clear hga hdone f3 hb
          go_wp2_with fail
          refine HCN.out.mono ?_
          rintro e wC ⟨vn, rfl, hownC, hbC⟩
          obtain ⟨A1, c1', rfl, hrow⟩ := own_form (ss := ls) hownC rfl
          have rC := r3.below hbC hrlr
          have d0 : wC.cell? ⟨w.heap.size + 1, 0, none⟩ = some (.int .i64 0) := rC.cell 0
          have e0 : wC.frozen? ⟨w.heap.size + 1, 0, none⟩ = false := rC.free 0
          have d1 : wC.cell? ⟨w.heap.size + 1, 1, none⟩ = some (.int .i64 0) := rC.cell 1
          have e1 : wC.frozen? ⟨w.heap.size + 1, 1, none⟩ = false := rC.free 1
          have d2 : wC.cell? ⟨w.heap.size + 1, 2, none⟩ = some (.string ⟨#[]⟩) := rC.cell 2
          have e2 : wC.frozen? ⟨w.heap.size + 1, 2, none⟩ = false := rC.free 2
          have d3 : wC.cell? ⟨w.heap.size + 1, 3, none⟩ = some (.slice none 0 0) := rC.cell 3
          have e3 : wC.frozen? ⟨w.heap.size + 1, 3, none⟩ = false := rC.free 3
          have d4 : wC.cell? ⟨w.heap.size + 1, 4, none⟩ = some (.slice none 0 0) := rC.cell 4
          have e4 : wC.frozen? ⟨w.heap.size + 1, 4, none⟩ = false := rC.free 4
          have HRow := Lib.hid hrow
          have HbC := Lib.hid hbC
          clear hrow hownC hbC rC y0
          go_wp2
          refine bodyPost_ret (v := .agg #[.int .i64 3, .int .i64 0, .string ⟨#[]⟩, .slice A1 ls.length c1', .slice A2 ts.length c2]) (by simp [results, Try.results69, go_sem, d0, d1, d2, d3, d4]) rfl ⟨_, rfl, ?_, ?_⟩
          · have hS : (((((wC.setCell ⟨w.heap.size + 1, 0, none⟩ (.int .i64 3)).setCell ⟨w.heap.size + 1, 1, none⟩ (.int .i64 0)).setCell ⟨w.heap.size + 1, 2, none⟩ (.string ⟨#[]⟩)).setCell ⟨w.heap.size + 1, 3, none⟩ (.slice A1 ls.length c1')).setCell ⟨w.heap.size + 1, 4, none⟩ (.slice A2 ts.length c2)).heap.size = wC.heap.size := by simp [World.setCell]
            have hk' : ∀ q, q ≠ w.heap.size + 1 → (((((wC.setCell ⟨w.heap.size + 1, 0, none⟩ (.int .i64 3)).setCell ⟨w.heap.size + 1, 1, none⟩ (.int .i64 0)).setCell ⟨w.heap.size + 1, 2, none⟩ (.string ⟨#[]⟩)).setCell ⟨w.heap.size + 1, 3, none⟩ (.slice A1 ls.length c1')).setCell ⟨w.heap.size + 1, 4, none⟩ (.slice A2 ts.length c2)).heap[q]? = wC.heap[q]? := fun q hq => by rw [Below.heap_setCell _ _ _ _ hq, Below.heap_setCell _ _ _ _ hq, Below.heap_setCell _ _ _ _ hq, Below.heap_setCell _ _ _ _ hq, Below.heap_setCell _ _ _ _ hq]
            rw [hS, defVa_3]
            have hsC := HbC.out.size
            have hbsz := HB.out.size
            have hD2 := (HD.out.keep (w' := wC) fun b hb' hbl => HbC.out.block b hbl).keep (w' := (((((wC.setCell ⟨w.heap.size + 1, 0, none⟩ (.int .i64 3)).setCell ⟨w.heap.size + 1, 1, none⟩ (.int .i64 0)).setCell ⟨w.heap.size + 1, 2, none⟩ (.string ⟨#[]⟩)).setCell ⟨w.heap.size + 1, 3, none⟩ (.slice A1 ls.length c1')).setCell ⟨w.heap.size + 1, 4, none⟩ (.slice A2 ts.length c2))) fun b hb' _ => hk' b (by have := hb'.1; omega)
            have hrn := HRN.out
            rcases HRow.out with hl0' | ⟨g, hA1, hg0, hrg⟩
            · have h9 := VaIn.of (t := .mk 3 0 ⟨#[]⟩ ls (defVas ts)) (L := A1) (lc := c1') (ac := c2) (gl := 0) (S := Span w.heap.size wC.heap.size) (by simp [Va.name, ByteArray.size]) HNN.out HN.out (.inl hl0') hD2 fun b hb' => ⟨⟨by have := hb'.1; omega, by have := hb'.2; omega⟩, by have := hb'.1; omega⟩
              simp only [Va.kind, Va.num, Va.name, Va.labels, Va.args, hrn] at h9
              exact h9
            · have hgl := hrg.lt
              have hg1 : wr.heap.size ≤ g := hg0
              have h9 := VaIn.of (t := .mk 3 0 ⟨#[]⟩ ls (defVas ts)) (L := A1) (lc := c1') (ac := c2) (gl := g) (S := Span w.heap.size wC.heap.size) (by simp [Va.name, ByteArray.size]) HNN.out HN.out (.inr ⟨hA1, ⟨by omega, by omega⟩, hrg.same (hk' g (by omega))⟩) hD2 fun b hb' => ⟨⟨by have := hb'.1; omega, by have := hb'.2; omega⟩, by have := hb'.2; omega⟩
              simp only [Va.kind, Va.num, Va.name, Va.labels, Va.args, hrn] at h9
              exact h9
          · exact (((((hb2'.trans ((HB.out.trans (HbC.out.mono HB.out.size)).mono hb2'.size)).setCell (p := ⟨w.heap.size + 1, 0, none⟩) (Nat.le_succ _) _).setCell (p := ⟨w.heap.size + 1, 1, none⟩) (Nat.le_succ _) _).setCell (p := ⟨w.heap.size + 1, 2, none⟩) (Nat.le_succ _) _).setCell (p := ⟨w.heap.size + 1, 3, none⟩) (Nat.le_succ _) _).setCell (p := ⟨w.heap.size + 1, 4, none⟩) (Nat.le_succ _) _
    · skip
      have haintForm := td_sumForm_intForm
      have haboolForm := td_sumForm_boolForm
      have harecForm := td_sumForm_recForm
      have hasumForm := td_sumForm_sumForm
      have hpos : 0 < ls.length ∧ 0 < ts.length := by
        rcases hkinds.out with h | ⟨_, h1, h2⟩ | h
        · omega
        · omega
        · omega
      obtain ⟨h0l, h0t⟩ := hpos
      have h0lI : (0 : Int) < (ls.length : Int) := by omega
      have h0tI : (0 : Int) < (ts.length : Int) := by omega
      obtain ⟨b, off, rfl, hbw1, q2a⟩ := HLW.out 0 h0l
      obtain ⟨b', off', M, mc, C, cc, rfl, hbw1', q3a, q4a, q5a, _, _, _, _, ht⟩ := HAW.out.elem 0 h0t
      rw [Nat.zero_mul, Nat.add_zero] at q3a q4a q5a
      rw [Nat.add_zero] at q2a
      obtain ⟨hb2, f2, hs2⟩ := boxes1 w1 75 #[.slice (some ⟨b, off, none⟩) ls.length lc, .slice (some ⟨b', off', none⟩) ts.length ac]
      have hb2' := hb1'.trans (hb2.mono hb1'.size)
      have r2 := Lib.hid (r1.below hb2 r1.lt)
      have q0 : (w1.alloc (.cells #[.slice (some ⟨b, off, none⟩) ls.length lc, .slice (some ⟨b', off', none⟩) ts.length ac] 75)).cell? ⟨w1.heap.size, 0, none⟩ = some (.slice (some ⟨b, off, none⟩) ls.length lc) := f2.cell 0
      have q1 : (w1.alloc (.cells #[.slice (some ⟨b, off, none⟩) ls.length lc, .slice (some ⟨b', off', none⟩) ts.length ac] 75)).cell? ⟨w1.heap.size, 1, none⟩ = some (.slice (some ⟨b', off', none⟩) ts.length ac) := f2.cell 1
      have q2 := (hb2'.cell (p := ⟨b, off, none⟩) hbw1).trans q2a
      have q3 := (hb2'.cell (p := ⟨b', off', none⟩) hbw1').trans q3a
      have q4 := (hb2'.cell (p := ⟨b', off' + 1, none⟩) hbw1').trans q4a
      have q5 := (hb2'.cell (p := ⟨b', off' + 2, none⟩) hbw1').trans q5a
      have ht0 := ht.up hb2'
      have hfl : w1.heap.size < (w1.alloc (.cells #[.slice (some ⟨b, off, none⟩) ls.length lc, .slice (some ⟨b', off', none⟩) ts.length ac] 75)).heap.size := f2.lt
      have hbw : b < (w1.alloc (.cells #[.slice (some ⟨b, off, none⟩) ls.length lc, .slice (some ⟨b', off', none⟩) ts.length ac] 75)).heap.size := by omega
      have hbw' : b' < (w1.alloc (.cells #[.slice (some ⟨b, off, none⟩) ls.length lc, .slice (some ⟨b', off', none⟩) ts.length ac] 75)).heap.size := by omega
      have HT := Lib.hid (fun W (h : Below (w1.alloc (.cells #[.slice (some ⟨b, off, none⟩) ls.length lc, .slice (some ⟨b', off', none⟩) ts.length ac] 75)).heap.size (w1.alloc (.cells #[.slice (some ⟨b, off, none⟩) ls.length lc, .slice (some ⟨b', off', none⟩) ts.length ac] 75)) W) => hsub.out 0 h0t _ W (ht0.up h))
      have hl00 := HLS.out 0 h0l
      have HR0 := Lib.hid r2.out.lt
      clear r1 f2 q2a q3a q4a q5a ht ht0
      go_upto_region 19 with fail
      generalize w1.alloc (.cells #[.slice (some ⟨b, off, none⟩) ls.length lc, .slice (some ⟨b', off', none⟩) ts.length ac] 75) = w2 at *
      have ed := (Below.refl w2.heap.size w2).drew
      go_region_held3 (fun x => x.cell? ⟨w1.heap.size, 0, none⟩ = some (.slice (some ⟨b, off, none⟩) ls.length lc) ∧ x.cell? ⟨w1.heap.size, 1, none⟩ = some (.slice (some ⟨b', off', none⟩) ts.length ac) ∧ x.cell? ⟨b, off, none⟩ = some (.string ls[0]) ∧ x.cell? ⟨b', off', none⟩ = some (.int .i64 ts[0].kind) ∧ x.cell? ⟨b', off' + 1, none⟩ = some (.slice M ts[0].labels.length mc) ∧ x.cell? ⟨b', off' + 2, none⟩ = some (.slice C ts[0].args.length cc)) ((first | (with_reducible exact ⟨(ed.cell (p := ⟨w1.heap.size, 0, none⟩) hfl).trans q0, (ed.cell (p := ⟨w1.heap.size, 1, none⟩) hfl).trans q1, (ed.cell (p := ⟨b, off, none⟩) hbw).trans q2, (ed.cell (p := ⟨b', off', none⟩) hbw').trans q3, (ed.cell (p := ⟨b', off' + 1, none⟩) hbw').trans q4, (ed.cell (p := ⟨b', off' + 2, none⟩) hbw').trans q5⟩) | (with_reducible exact ⟨k0, k1, k2, k3, k4, k5⟩) | (with_reducible exact ⟨m0, m1, m2, m3, m4, m5⟩) | (with_reducible exact ⟨n0, n1, n2, n3, n4, n5⟩) | (with_reducible exact ⟨s0, s1, s2, s3, s4, s5⟩)))
        (first | (go_at_call 91; refine (clone_any ls[0] _ (by omega)).mono ?_; rintro e wC ⟨rfl, hbc⟩; have hbC := ed.trans hbc; have k0 := (hbC.cell (p := ⟨w1.heap.size, 0, none⟩) hfl).trans q0; have k1 := (hbC.cell (p := ⟨w1.heap.size, 1, none⟩) hfl).trans q1; have k2 := (hbC.cell (p := ⟨b, off, none⟩) hbw).trans q2; have k3 := (hbC.cell (p := ⟨b', off', none⟩) hbw').trans q3; have k4 := (hbC.cell (p := ⟨b', off' + 1, none⟩) hbw').trans q4; have k5 := (hbC.cell (p := ⟨b', off' + 2, none⟩) hbw').trans q5) | (go_at_call 69; refine (HT.out _ hbC).mono ?_; rintro e wD ⟨v1, rfl, ht1, hb1⟩; have HT1 := Lib.hid ht1; obtain ⟨T1, U1, T2, U2, _, rfl, _⟩ := ht1.open; clear ht1; have hbD := hbC.trans (hb1.mono hbC.size); have hbA := hbD.alloc hbD.size (.cells #[.int .i64 (defVa ts[0]).kind, .int .i64 (defVa ts[0]).num, .string (defVa ts[0]).name, .slice T1 (defVa ts[0]).labels.length U1, .slice T2 (defVa ts[0]).args.length U2] 51); have r3 := (r2.out.below hbA HR0.out); have m0 := (hbD.cell (p := ⟨w1.heap.size, 0, none⟩) hfl).trans q0; have m1 := (hbD.cell (p := ⟨w1.heap.size, 1, none⟩) hfl).trans q1; have m2 := (hbD.cell (p := ⟨b, off, none⟩) hbw).trans q2; have m3 := (hbD.cell (p := ⟨b', off', none⟩) hbw').trans q3; have m4 := (hbD.cell (p := ⟨b', off' + 1, none⟩) hbw').trans q4; have m5 := (hbD.cell (p := ⟨b', off' + 2, none⟩) hbw').trans q5; have n0 := (hbA.cell (p := ⟨w1.heap.size, 0, none⟩) hfl).trans q0; have n1 := (hbA.cell (p := ⟨w1.heap.size, 1, none⟩) hfl).trans q1; have n2 := (hbA.cell (p := ⟨b, off, none⟩) hbw).trans q2; have n3 := (hbA.cell (p := ⟨b', off', none⟩) hbw').trans q3; have n4 := (hbA.cell (p := ⟨b', off' + 1, none⟩) hbw').trans q4; have n5 := (hbA.cell (p := ⟨b', off' + 2, none⟩) hbw').trans q5; have d0 : (wD.alloc (.cells #[.int .i64 (defVa ts[0]).kind, .int .i64 (defVa ts[0]).num, .string (defVa ts[0]).name, .slice T1 (defVa ts[0]).labels.length U1, .slice T2 (defVa ts[0]).args.length U2] 51)).cell? ⟨w.heap.size + 1, 0, none⟩ = some (.int .i64 0) := r3.cell 0; have e0 : (wD.alloc (.cells #[.int .i64 (defVa ts[0]).kind, .int .i64 (defVa ts[0]).num, .string (defVa ts[0]).name, .slice T1 (defVa ts[0]).labels.length U1, .slice T2 (defVa ts[0]).args.length U2] 51)).frozen? ⟨w.heap.size + 1, 0, none⟩ = false := r3.free 0; have d1 : (wD.alloc (.cells #[.int .i64 (defVa ts[0]).kind, .int .i64 (defVa ts[0]).num, .string (defVa ts[0]).name, .slice T1 (defVa ts[0]).labels.length U1, .slice T2 (defVa ts[0]).args.length U2] 51)).cell? ⟨w.heap.size + 1, 1, none⟩ = some (.int .i64 0) := r3.cell 1; have e1 : (wD.alloc (.cells #[.int .i64 (defVa ts[0]).kind, .int .i64 (defVa ts[0]).num, .string (defVa ts[0]).name, .slice T1 (defVa ts[0]).labels.length U1, .slice T2 (defVa ts[0]).args.length U2] 51)).frozen? ⟨w.heap.size + 1, 1, none⟩ = false := r3.free 1; have d2 : (wD.alloc (.cells #[.int .i64 (defVa ts[0]).kind, .int .i64 (defVa ts[0]).num, .string (defVa ts[0]).name, .slice T1 (defVa ts[0]).labels.length U1, .slice T2 (defVa ts[0]).args.length U2] 51)).cell? ⟨w.heap.size + 1, 2, none⟩ = some (.string ⟨#[]⟩) := r3.cell 2; have e2 : (wD.alloc (.cells #[.int .i64 (defVa ts[0]).kind, .int .i64 (defVa ts[0]).num, .string (defVa ts[0]).name, .slice T1 (defVa ts[0]).labels.length U1, .slice T2 (defVa ts[0]).args.length U2] 51)).frozen? ⟨w.heap.size + 1, 2, none⟩ = false := r3.free 2; have d3 : (wD.alloc (.cells #[.int .i64 (defVa ts[0]).kind, .int .i64 (defVa ts[0]).num, .string (defVa ts[0]).name, .slice T1 (defVa ts[0]).labels.length U1, .slice T2 (defVa ts[0]).args.length U2] 51)).cell? ⟨w.heap.size + 1, 3, none⟩ = some (.slice none 0 0) := r3.cell 3; have e3 : (wD.alloc (.cells #[.int .i64 (defVa ts[0]).kind, .int .i64 (defVa ts[0]).num, .string (defVa ts[0]).name, .slice T1 (defVa ts[0]).labels.length U1, .slice T2 (defVa ts[0]).args.length U2] 51)).frozen? ⟨w.heap.size + 1, 3, none⟩ = false := r3.free 3; have d4 : (wD.alloc (.cells #[.int .i64 (defVa ts[0]).kind, .int .i64 (defVa ts[0]).num, .string (defVa ts[0]).name, .slice T1 (defVa ts[0]).labels.length U1, .slice T2 (defVa ts[0]).args.length U2] 51)).cell? ⟨w.heap.size + 1, 4, none⟩ = some (.slice none 0 0) := r3.cell 4; have e4 : (wD.alloc (.cells #[.int .i64 (defVa ts[0]).kind, .int .i64 (defVa ts[0]).num, .string (defVa ts[0]).name, .slice T1 (defVa ts[0]).labels.length U1, .slice T2 (defVa ts[0]).args.length U2] 51)).frozen? ⟨w.heap.size + 1, 4, none⟩ = false := r3.free 4; have s0 : ((((((wD.alloc (.cells #[.int .i64 (defVa ts[0]).kind, .int .i64 (defVa ts[0]).num, .string (defVa ts[0]).name, .slice T1 (defVa ts[0]).labels.length U1, .slice T2 (defVa ts[0]).args.length U2] 51)).setCell ⟨w.heap.size + 1, 0, none⟩ (.int .i64 4)).setCell ⟨w.heap.size + 1, 1, none⟩ (.int .i64 0)).setCell ⟨w.heap.size + 1, 2, none⟩ (.string ls[0])).setCell ⟨w.heap.size + 1, 3, none⟩ (.slice none 0 0)).setCell ⟨w.heap.size + 1, 4, none⟩ (.slice (some ⟨wD.heap.size, 0, none⟩) 1 1)).cell? ⟨w1.heap.size, 0, none⟩ = _ := (World.cell?_of_block (a := ⟨w1.heap.size, 0, none⟩) (show ((((((wD.alloc (.cells #[.int .i64 (defVa ts[0]).kind, .int .i64 (defVa ts[0]).num, .string (defVa ts[0]).name, .slice T1 (defVa ts[0]).labels.length U1, .slice T2 (defVa ts[0]).args.length U2] 51)).setCell ⟨w.heap.size + 1, 0, none⟩ (.int .i64 4)).setCell ⟨w.heap.size + 1, 1, none⟩ (.int .i64 0)).setCell ⟨w.heap.size + 1, 2, none⟩ (.string ls[0])).setCell ⟨w.heap.size + 1, 3, none⟩ (.slice none 0 0)).setCell ⟨w.heap.size + 1, 4, none⟩ (.slice (some ⟨wD.heap.size, 0, none⟩) 1 1)).heap[w1.heap.size]? = (wD.alloc (.cells #[.int .i64 (defVa ts[0]).kind, .int .i64 (defVa ts[0]).num, .string (defVa ts[0]).name, .slice T1 (defVa ts[0]).labels.length U1, .slice T2 (defVa ts[0]).args.length U2] 51)).heap[w1.heap.size]? by have hq : w1.heap.size ≠ w.heap.size + 1 := (by omega); rw [Below.heap_setCell _ _ _ _ hq, Below.heap_setCell _ _ _ _ hq, Below.heap_setCell _ _ _ _ hq, Below.heap_setCell _ _ _ _ hq, Below.heap_setCell _ _ _ _ hq])).trans n0; have s1 : ((((((wD.alloc (.cells #[.int .i64 (defVa ts[0]).kind, .int .i64 (defVa ts[0]).num, .string (defVa ts[0]).name, .slice T1 (defVa ts[0]).labels.length U1, .slice T2 (defVa ts[0]).args.length U2] 51)).setCell ⟨w.heap.size + 1, 0, none⟩ (.int .i64 4)).setCell ⟨w.heap.size + 1, 1, none⟩ (.int .i64 0)).setCell ⟨w.heap.size + 1, 2, none⟩ (.string ls[0])).setCell ⟨w.heap.size + 1, 3, none⟩ (.slice none 0 0)).setCell ⟨w.heap.size + 1, 4, none⟩ (.slice (some ⟨wD.heap.size, 0, none⟩) 1 1)).cell? ⟨w1.heap.size, 1, none⟩ = _ := (World.cell?_of_block (a := ⟨w1.heap.size, 1, none⟩) (show ((((((wD.alloc (.cells #[.int .i64 (defVa ts[0]).kind, .int .i64 (defVa ts[0]).num, .string (defVa ts[0]).name, .slice T1 (defVa ts[0]).labels.length U1, .slice T2 (defVa ts[0]).args.length U2] 51)).setCell ⟨w.heap.size + 1, 0, none⟩ (.int .i64 4)).setCell ⟨w.heap.size + 1, 1, none⟩ (.int .i64 0)).setCell ⟨w.heap.size + 1, 2, none⟩ (.string ls[0])).setCell ⟨w.heap.size + 1, 3, none⟩ (.slice none 0 0)).setCell ⟨w.heap.size + 1, 4, none⟩ (.slice (some ⟨wD.heap.size, 0, none⟩) 1 1)).heap[w1.heap.size]? = (wD.alloc (.cells #[.int .i64 (defVa ts[0]).kind, .int .i64 (defVa ts[0]).num, .string (defVa ts[0]).name, .slice T1 (defVa ts[0]).labels.length U1, .slice T2 (defVa ts[0]).args.length U2] 51)).heap[w1.heap.size]? by have hq : w1.heap.size ≠ w.heap.size + 1 := (by omega); rw [Below.heap_setCell _ _ _ _ hq, Below.heap_setCell _ _ _ _ hq, Below.heap_setCell _ _ _ _ hq, Below.heap_setCell _ _ _ _ hq, Below.heap_setCell _ _ _ _ hq])).trans n1; have s2 : ((((((wD.alloc (.cells #[.int .i64 (defVa ts[0]).kind, .int .i64 (defVa ts[0]).num, .string (defVa ts[0]).name, .slice T1 (defVa ts[0]).labels.length U1, .slice T2 (defVa ts[0]).args.length U2] 51)).setCell ⟨w.heap.size + 1, 0, none⟩ (.int .i64 4)).setCell ⟨w.heap.size + 1, 1, none⟩ (.int .i64 0)).setCell ⟨w.heap.size + 1, 2, none⟩ (.string ls[0])).setCell ⟨w.heap.size + 1, 3, none⟩ (.slice none 0 0)).setCell ⟨w.heap.size + 1, 4, none⟩ (.slice (some ⟨wD.heap.size, 0, none⟩) 1 1)).cell? ⟨b, off, none⟩ = _ := (World.cell?_of_block (a := ⟨b, off, none⟩) (show ((((((wD.alloc (.cells #[.int .i64 (defVa ts[0]).kind, .int .i64 (defVa ts[0]).num, .string (defVa ts[0]).name, .slice T1 (defVa ts[0]).labels.length U1, .slice T2 (defVa ts[0]).args.length U2] 51)).setCell ⟨w.heap.size + 1, 0, none⟩ (.int .i64 4)).setCell ⟨w.heap.size + 1, 1, none⟩ (.int .i64 0)).setCell ⟨w.heap.size + 1, 2, none⟩ (.string ls[0])).setCell ⟨w.heap.size + 1, 3, none⟩ (.slice none 0 0)).setCell ⟨w.heap.size + 1, 4, none⟩ (.slice (some ⟨wD.heap.size, 0, none⟩) 1 1)).heap[b]? = (wD.alloc (.cells #[.int .i64 (defVa ts[0]).kind, .int .i64 (defVa ts[0]).num, .string (defVa ts[0]).name, .slice T1 (defVa ts[0]).labels.length U1, .slice T2 (defVa ts[0]).args.length U2] 51)).heap[b]? by have hq : b ≠ w.heap.size + 1 := (by omega); rw [Below.heap_setCell _ _ _ _ hq, Below.heap_setCell _ _ _ _ hq, Below.heap_setCell _ _ _ _ hq, Below.heap_setCell _ _ _ _ hq, Below.heap_setCell _ _ _ _ hq])).trans n2; have s3 : ((((((wD.alloc (.cells #[.int .i64 (defVa ts[0]).kind, .int .i64 (defVa ts[0]).num, .string (defVa ts[0]).name, .slice T1 (defVa ts[0]).labels.length U1, .slice T2 (defVa ts[0]).args.length U2] 51)).setCell ⟨w.heap.size + 1, 0, none⟩ (.int .i64 4)).setCell ⟨w.heap.size + 1, 1, none⟩ (.int .i64 0)).setCell ⟨w.heap.size + 1, 2, none⟩ (.string ls[0])).setCell ⟨w.heap.size + 1, 3, none⟩ (.slice none 0 0)).setCell ⟨w.heap.size + 1, 4, none⟩ (.slice (some ⟨wD.heap.size, 0, none⟩) 1 1)).cell? ⟨b', off', none⟩ = _ := (World.cell?_of_block (a := ⟨b', off', none⟩) (show ((((((wD.alloc (.cells #[.int .i64 (defVa ts[0]).kind, .int .i64 (defVa ts[0]).num, .string (defVa ts[0]).name, .slice T1 (defVa ts[0]).labels.length U1, .slice T2 (defVa ts[0]).args.length U2] 51)).setCell ⟨w.heap.size + 1, 0, none⟩ (.int .i64 4)).setCell ⟨w.heap.size + 1, 1, none⟩ (.int .i64 0)).setCell ⟨w.heap.size + 1, 2, none⟩ (.string ls[0])).setCell ⟨w.heap.size + 1, 3, none⟩ (.slice none 0 0)).setCell ⟨w.heap.size + 1, 4, none⟩ (.slice (some ⟨wD.heap.size, 0, none⟩) 1 1)).heap[b']? = (wD.alloc (.cells #[.int .i64 (defVa ts[0]).kind, .int .i64 (defVa ts[0]).num, .string (defVa ts[0]).name, .slice T1 (defVa ts[0]).labels.length U1, .slice T2 (defVa ts[0]).args.length U2] 51)).heap[b']? by have hq : b' ≠ w.heap.size + 1 := (by omega); rw [Below.heap_setCell _ _ _ _ hq, Below.heap_setCell _ _ _ _ hq, Below.heap_setCell _ _ _ _ hq, Below.heap_setCell _ _ _ _ hq, Below.heap_setCell _ _ _ _ hq])).trans n3; have s4 : ((((((wD.alloc (.cells #[.int .i64 (defVa ts[0]).kind, .int .i64 (defVa ts[0]).num, .string (defVa ts[0]).name, .slice T1 (defVa ts[0]).labels.length U1, .slice T2 (defVa ts[0]).args.length U2] 51)).setCell ⟨w.heap.size + 1, 0, none⟩ (.int .i64 4)).setCell ⟨w.heap.size + 1, 1, none⟩ (.int .i64 0)).setCell ⟨w.heap.size + 1, 2, none⟩ (.string ls[0])).setCell ⟨w.heap.size + 1, 3, none⟩ (.slice none 0 0)).setCell ⟨w.heap.size + 1, 4, none⟩ (.slice (some ⟨wD.heap.size, 0, none⟩) 1 1)).cell? ⟨b', off' + 1, none⟩ = _ := (World.cell?_of_block (a := ⟨b', off' + 1, none⟩) (show ((((((wD.alloc (.cells #[.int .i64 (defVa ts[0]).kind, .int .i64 (defVa ts[0]).num, .string (defVa ts[0]).name, .slice T1 (defVa ts[0]).labels.length U1, .slice T2 (defVa ts[0]).args.length U2] 51)).setCell ⟨w.heap.size + 1, 0, none⟩ (.int .i64 4)).setCell ⟨w.heap.size + 1, 1, none⟩ (.int .i64 0)).setCell ⟨w.heap.size + 1, 2, none⟩ (.string ls[0])).setCell ⟨w.heap.size + 1, 3, none⟩ (.slice none 0 0)).setCell ⟨w.heap.size + 1, 4, none⟩ (.slice (some ⟨wD.heap.size, 0, none⟩) 1 1)).heap[b']? = (wD.alloc (.cells #[.int .i64 (defVa ts[0]).kind, .int .i64 (defVa ts[0]).num, .string (defVa ts[0]).name, .slice T1 (defVa ts[0]).labels.length U1, .slice T2 (defVa ts[0]).args.length U2] 51)).heap[b']? by have hq : b' ≠ w.heap.size + 1 := (by omega); rw [Below.heap_setCell _ _ _ _ hq, Below.heap_setCell _ _ _ _ hq, Below.heap_setCell _ _ _ _ hq, Below.heap_setCell _ _ _ _ hq, Below.heap_setCell _ _ _ _ hq])).trans n4; have s5 : ((((((wD.alloc (.cells #[.int .i64 (defVa ts[0]).kind, .int .i64 (defVa ts[0]).num, .string (defVa ts[0]).name, .slice T1 (defVa ts[0]).labels.length U1, .slice T2 (defVa ts[0]).args.length U2] 51)).setCell ⟨w.heap.size + 1, 0, none⟩ (.int .i64 4)).setCell ⟨w.heap.size + 1, 1, none⟩ (.int .i64 0)).setCell ⟨w.heap.size + 1, 2, none⟩ (.string ls[0])).setCell ⟨w.heap.size + 1, 3, none⟩ (.slice none 0 0)).setCell ⟨w.heap.size + 1, 4, none⟩ (.slice (some ⟨wD.heap.size, 0, none⟩) 1 1)).cell? ⟨b', off' + 2, none⟩ = _ := (World.cell?_of_block (a := ⟨b', off' + 2, none⟩) (show ((((((wD.alloc (.cells #[.int .i64 (defVa ts[0]).kind, .int .i64 (defVa ts[0]).num, .string (defVa ts[0]).name, .slice T1 (defVa ts[0]).labels.length U1, .slice T2 (defVa ts[0]).args.length U2] 51)).setCell ⟨w.heap.size + 1, 0, none⟩ (.int .i64 4)).setCell ⟨w.heap.size + 1, 1, none⟩ (.int .i64 0)).setCell ⟨w.heap.size + 1, 2, none⟩ (.string ls[0])).setCell ⟨w.heap.size + 1, 3, none⟩ (.slice none 0 0)).setCell ⟨w.heap.size + 1, 4, none⟩ (.slice (some ⟨wD.heap.size, 0, none⟩) 1 1)).heap[b']? = (wD.alloc (.cells #[.int .i64 (defVa ts[0]).kind, .int .i64 (defVa ts[0]).num, .string (defVa ts[0]).name, .slice T1 (defVa ts[0]).labels.length U1, .slice T2 (defVa ts[0]).args.length U2] 51)).heap[b']? by have hq : b' ≠ w.heap.size + 1 := (by omega); rw [Below.heap_setCell _ _ _ _ hq, Below.heap_setCell _ _ _ _ hq, Below.heap_setCell _ _ _ _ hq, Below.heap_setCell _ _ _ _ hq, Below.heap_setCell _ _ _ _ hq])).trans n5))
      have HBA := Lib.hid hbA
      have HBC := Lib.hid hbC
      have HB1 := Lib.hid hb1
      go_wp2
      refine bodyPost_ret (v := .agg #[.int .i64 4, .int .i64 0, .string ls[0], .slice none 0 0, .slice (some ⟨wD.heap.size, 0, none⟩) 1 1]) (by simp [results, Try.results69, go_sem, d0, d1, d2, d3, d4]) rfl ⟨_, rfl, ?_, ?_⟩
      · have hS : ((((((wD.alloc (.cells #[.int .i64 (defVa ts[0]).kind, .int .i64 (defVa ts[0]).num, .string (defVa ts[0]).name, .slice T1 (defVa ts[0]).labels.length U1, .slice T2 (defVa ts[0]).args.length U2] 51)).setCell ⟨w.heap.size + 1, 0, none⟩ (.int .i64 4)).setCell ⟨w.heap.size + 1, 1, none⟩ (.int .i64 0)).setCell ⟨w.heap.size + 1, 2, none⟩ (.string ls[0])).setCell ⟨w.heap.size + 1, 3, none⟩ (.slice none 0 0)).setCell ⟨w.heap.size + 1, 4, none⟩ (.slice (some ⟨wD.heap.size, 0, none⟩) 1 1)).heap.size = (wD.alloc (.cells #[.int .i64 (defVa ts[0]).kind, .int .i64 (defVa ts[0]).num, .string (defVa ts[0]).name, .slice T1 (defVa ts[0]).labels.length U1, .slice T2 (defVa ts[0]).args.length U2] 51)).heap.size := by simp [World.setCell]
        have hk' : ∀ q, q ≠ w.heap.size + 1 → ((((((wD.alloc (.cells #[.int .i64 (defVa ts[0]).kind, .int .i64 (defVa ts[0]).num, .string (defVa ts[0]).name, .slice T1 (defVa ts[0]).labels.length U1, .slice T2 (defVa ts[0]).args.length U2] 51)).setCell ⟨w.heap.size + 1, 0, none⟩ (.int .i64 4)).setCell ⟨w.heap.size + 1, 1, none⟩ (.int .i64 0)).setCell ⟨w.heap.size + 1, 2, none⟩ (.string ls[0])).setCell ⟨w.heap.size + 1, 3, none⟩ (.slice none 0 0)).setCell ⟨w.heap.size + 1, 4, none⟩ (.slice (some ⟨wD.heap.size, 0, none⟩) 1 1)).heap[q]? = (wD.alloc (.cells #[.int .i64 (defVa ts[0]).kind, .int .i64 (defVa ts[0]).num, .string (defVa ts[0]).name, .slice T1 (defVa ts[0]).labels.length U1, .slice T2 (defVa ts[0]).args.length U2] 51)).heap[q]? := fun q hq => by rw [Below.heap_setCell _ _ _ _ hq, Below.heap_setCell _ _ _ _ hq, Below.heap_setCell _ _ _ _ hq, Below.heap_setCell _ _ _ _ hq, Below.heap_setCell _ _ _ _ hq]
        have e1 : ls.headD ⟨#[]⟩ = ls[0] := by
          cases ls with
          | nil => simp at h0l
          | cons a r => rfl
        have e2 : defHead ts = [defVa ts[0]] := by
          cases ts with
          | nil => simp at h0t
          | cons a r => rw [defHead]; rfl
        rw [hS, defVa_4, e1, e2]
        have hsc := HBC.out.size
        have hs9 := HB1.out.size
        have hg := VGather.done (ts := [defVa ts[0]]) (A := some ⟨wD.heap.size, 0, none⟩) (c := 1) (vgather_one (base := wC.heap.size) (Nat.le_refl _) hs9 (HT1.out : VaIn wD (Span wC.heap.size wD.heap.size) _ _)) (by simp [maxLen])
        have hD2 := hg.keep (w' := ((((((wD.alloc (.cells #[.int .i64 (defVa ts[0]).kind, .int .i64 (defVa ts[0]).num, .string (defVa ts[0]).name, .slice T1 (defVa ts[0]).labels.length U1, .slice T2 (defVa ts[0]).args.length U2] 51)).setCell ⟨w.heap.size + 1, 0, none⟩ (.int .i64 4)).setCell ⟨w.heap.size + 1, 1, none⟩ (.int .i64 0)).setCell ⟨w.heap.size + 1, 2, none⟩ (.string ls[0])).setCell ⟨w.heap.size + 1, 3, none⟩ (.slice none 0 0)).setCell ⟨w.heap.size + 1, 4, none⟩ (.slice (some ⟨wD.heap.size, 0, none⟩) 1 1))) fun b hb' _ => hk' b (by have := hb'.1; omega)
        exact VaIn.of (t := .mk 4 0 ls[0] [] [defVa ts[0]]) (gl := 0) (S := Span w.heap.size (wD.alloc (.cells #[.int .i64 (defVa ts[0]).kind, .int .i64 (defVa ts[0]).num, .string (defVa ts[0]).name, .slice T1 (defVa ts[0]).labels.length U1, .slice T2 (defVa ts[0]).args.length U2] 51)).heap.size) (HN.out 0 h0l) (Nat.zero_le _) (fun i h => absurd h (by simp [Va.labels])) (.inl rfl) hD2 fun b hb' => ⟨⟨by have := hb'.1; omega, hb'.2⟩, by have := hb'.1; omega⟩
      · exact (((((hb2'.trans (HBA.out.mono hb2'.size)).setCell (p := ⟨w.heap.size + 1, 0, none⟩) (Nat.le_succ _) _).setCell (p := ⟨w.heap.size + 1, 1, none⟩) (Nat.le_succ _) _).setCell (p := ⟨w.heap.size + 1, 2, none⟩) (Nat.le_succ _) _).setCell (p := ⟨w.heap.size + 1, 3, none⟩) (Nat.le_succ _) _).setCell (p := ⟨w.heap.size + 1, 4, none⟩) (Nat.le_succ _) _
    · skip
      have haintForm := td_listForm_intForm
      have haboolForm := td_listForm_boolForm
      have harecForm := td_listForm_recForm
      have hasumForm := td_listForm_sumForm
      have halistForm := td_listForm_listForm
      obtain ⟨L2, lc2, A2, ac2, hv2, _⟩ := ht1.open
      simp only [Value.agg.injEq, Array.mk.injEq, List.cons.injEq, and_true] at hv2
      obtain ⟨rfl, rfl, rfl⟩ := hv2
      have hb2 := (Below.refl w1.heap.size w1).alloc (Nat.le_refl _) (.cells #[.int .i64 t1.kind, .slice L2 t1.labels.length lc2, .slice A2 t1.args.length ac2] 115)
      have r2 := r1.below hb2 r1.lt
      have hb2' := hb1'.trans (hb2.mono hb1'.size)
      have d0 : (w1.alloc (.cells #[.int .i64 t1.kind, .slice L2 t1.labels.length lc2, .slice A2 t1.args.length ac2] 115)).cell? ⟨w.heap.size + 1, 0, none⟩ = some (.int .i64 0) := r2.cell 0
      have e0 : (w1.alloc (.cells #[.int .i64 t1.kind, .slice L2 t1.labels.length lc2, .slice A2 t1.args.length ac2] 115)).frozen? ⟨w.heap.size + 1, 0, none⟩ = false := r2.free 0
      have d1 : (w1.alloc (.cells #[.int .i64 t1.kind, .slice L2 t1.labels.length lc2, .slice A2 t1.args.length ac2] 115)).cell? ⟨w.heap.size + 1, 1, none⟩ = some (.int .i64 0) := r2.cell 1
      have e1 : (w1.alloc (.cells #[.int .i64 t1.kind, .slice L2 t1.labels.length lc2, .slice A2 t1.args.length ac2] 115)).frozen? ⟨w.heap.size + 1, 1, none⟩ = false := r2.free 1
      have d2 : (w1.alloc (.cells #[.int .i64 t1.kind, .slice L2 t1.labels.length lc2, .slice A2 t1.args.length ac2] 115)).cell? ⟨w.heap.size + 1, 2, none⟩ = some (.string ⟨#[]⟩) := r2.cell 2
      have e2 : (w1.alloc (.cells #[.int .i64 t1.kind, .slice L2 t1.labels.length lc2, .slice A2 t1.args.length ac2] 115)).frozen? ⟨w.heap.size + 1, 2, none⟩ = false := r2.free 2
      have d3 : (w1.alloc (.cells #[.int .i64 t1.kind, .slice L2 t1.labels.length lc2, .slice A2 t1.args.length ac2] 115)).cell? ⟨w.heap.size + 1, 3, none⟩ = some (.slice none 0 0) := r2.cell 3
      have e3 : (w1.alloc (.cells #[.int .i64 t1.kind, .slice L2 t1.labels.length lc2, .slice A2 t1.args.length ac2] 115)).frozen? ⟨w.heap.size + 1, 3, none⟩ = false := r2.free 3
      have d4 : (w1.alloc (.cells #[.int .i64 t1.kind, .slice L2 t1.labels.length lc2, .slice A2 t1.args.length ac2] 115)).cell? ⟨w.heap.size + 1, 4, none⟩ = some (.slice none 0 0) := r2.cell 4
      have e4 : (w1.alloc (.cells #[.int .i64 t1.kind, .slice L2 t1.labels.length lc2, .slice A2 t1.args.length ac2] 115)).frozen? ⟨w.heap.size + 1, 4, none⟩ = false := r2.free 4
      clear r1 r2 ht1
      go_wp2
      refine bodyPost_ret (v := .agg #[.int .i64 5, .int .i64 0, .string ⟨#[]⟩, .slice none 0 0, .slice none 0 0]) (by simp [results, Try.results69, go_sem, d0, d1, d2, d3, d4]) rfl ⟨_, rfl, ?_, ?_⟩
      · rw [defVa_5]
        exact VaIn.leaf _ _ _ _ _ _ _ _ _ (by simp [ByteArray.size])
      · exact ((((hb2'.setCell (p := ⟨w.heap.size + 1, 0, none⟩) (Nat.le_succ _) _).setCell (p := ⟨w.heap.size + 1, 1, none⟩) (Nat.le_succ _) _).setCell (p := ⟨w.heap.size + 1, 2, none⟩) (Nat.le_succ _) _).setCell (p := ⟨w.heap.size + 1, 3, none⟩) (Nat.le_succ _) _).setCell (p := ⟨w.heap.size + 1, 4, none⟩) (Nat.le_succ _) _

theorem implDef_any (t : Ty) : DefOne 69 t := by
  induction t using Ty.ind with
  | h k ls ts ih => exact implDef_of k ls ts ih

set_option maxHeartbeats 1000000 in
theorem implDefault_any (t : Ty) (v : Value) (w : World) (hv : OwnT w v t) (hsz : szTy t ≤ 1048576) : Calls Try.prog 34 #[v] w (NewVa w (defB t)) := by
  have hv0 := hv
  have HV := Lib.hid (fun V W h => implValid_any t V W h hsz)
  have HD := Lib.hid (fun V W h hf => implDef_any t V W h hf hsz)
  obtain ⟨L, lc, A, ac, rfl, _⟩ := hv.open
  obtain ⟨hb0, p0, r0, hs0⟩ := boxes2 w 27 51 #[.int .i64 t.kind, .slice L t.labels.length lc, .slice A t.args.length ac] #[.int .i64 0, .int .i64 0, .string ⟨#[]⟩, .slice none 0 0, .slice none 0 0]
  have hv1 := hv0.up hb0
  clear hv hv0
  go_enter Try.func34, Try.ntmps34
  go_wp2_with fail
  generalize (w.alloc (.cells #[.int .i64 t.kind, .slice L t.labels.length lc, .slice A t.args.length ac] 27)).alloc (.cells #[.int .i64 0, .int .i64 0, .string ⟨#[]⟩, .slice none 0 0, .slice none 0 0] 51) = w0 at *
  refine (HV.out _ w0 hv1).mono ?_
  rintro e w1 ⟨rfl, hb1⟩
  have hb1' := hb0.trans (hb1.mono hb0.size)
  have r1 := r0.below hb1 r0.lt
  cases hvb : validB t
  · have hr := Lib.hid (show defB t = .mk 0 0 ⟨#[]⟩ [] [] by unfold defB; rw [hvb]; rfl)
    have d0 : w1.cell? ⟨w.heap.size + 1, 0, none⟩ = some (.int .i64 0) := r1.cell 0
    have e0 : w1.frozen? ⟨w.heap.size + 1, 0, none⟩ = false := r1.free 0
    have d1 : w1.cell? ⟨w.heap.size + 1, 1, none⟩ = some (.int .i64 0) := r1.cell 1
    have e1 : w1.frozen? ⟨w.heap.size + 1, 1, none⟩ = false := r1.free 1
    have d2 : w1.cell? ⟨w.heap.size + 1, 2, none⟩ = some (.string ⟨#[]⟩) := r1.cell 2
    have e2 : w1.frozen? ⟨w.heap.size + 1, 2, none⟩ = false := r1.free 2
    have d3 : w1.cell? ⟨w.heap.size + 1, 3, none⟩ = some (.slice none 0 0) := r1.cell 3
    have e3 : w1.frozen? ⟨w.heap.size + 1, 3, none⟩ = false := r1.free 3
    have d4 : w1.cell? ⟨w.heap.size + 1, 4, none⟩ = some (.slice none 0 0) := r1.cell 4
    have e4 : w1.frozen? ⟨w.heap.size + 1, 4, none⟩ = false := r1.free 4
    clear p0 r0 r1 hs0 hvb
    go_wp2
    refine bodyPost_ret (v := .agg #[.int .i64 0, .int .i64 0, .string ⟨#[]⟩, .slice none 0 0, .slice none 0 0]) (by simp [results, Try.results34, go_sem, d0, d1, d2, d3, d4]) rfl ⟨_, rfl, ?_, ?_⟩
    · rw [hr.out]
      exact VaIn.leaf _ _ _ _ _ _ _ _ _ (by simp [ByteArray.size])
    · exact ((((hb1'.setCell (by simp) _).setCell (by simp) _).setCell (by simp) _).setCell (by simp) _).setCell (by simp) _
  · have hr := Lib.hid (show defB t = defVa t by unfold defB; rw [hvb]; rfl)
    have hf : formTy t = true := by
      unfold validB at hvb
      simp only [Bool.and_eq_true] at hvb
      exact hvb.2
    have p1 := p0.below hb1 p0.lt
    have c0 : w1.cell? ⟨w.heap.size, 0, none⟩ = some (.int .i64 t.kind) := p1.cell 0
    have c1 : w1.cell? ⟨w.heap.size, 1, none⟩ = some (.slice L t.labels.length lc) := p1.cell 1
    have c2 : w1.cell? ⟨w.heap.size, 2, none⟩ = some (.slice A t.args.length ac) := p1.cell 2
    have HC := Lib.hid (HD.out _ w1 (hv1.up hb1).here hf)
    have HZ := Lib.hid hs0
    have hs1 := hb1.size
    clear p0 r0 p1 hv1 hvb hf hs0
    go_wp2_with fail
    refine HC.out.mono ?_
    rintro e w2 ⟨v2, rfl, ht2, hb2⟩
    have HT2 := Lib.hid ht2
    obtain ⟨T1, U1, T2, U2, _, rfl, _⟩ := ht2.open
    have hb2' := hb1'.trans (hb2.mono hb1'.size)
    have r2 := r1.below hb2 r1.lt
    have d0 : w2.cell? ⟨w.heap.size + 1, 0, none⟩ = some (.int .i64 0) := r2.cell 0
    have e0 : w2.frozen? ⟨w.heap.size + 1, 0, none⟩ = false := r2.free 0
    have d1 : w2.cell? ⟨w.heap.size + 1, 1, none⟩ = some (.int .i64 0) := r2.cell 1
    have e1 : w2.frozen? ⟨w.heap.size + 1, 1, none⟩ = false := r2.free 1
    have d2 : w2.cell? ⟨w.heap.size + 1, 2, none⟩ = some (.string ⟨#[]⟩) := r2.cell 2
    have e2 : w2.frozen? ⟨w.heap.size + 1, 2, none⟩ = false := r2.free 2
    have d3 : w2.cell? ⟨w.heap.size + 1, 3, none⟩ = some (.slice none 0 0) := r2.cell 3
    have e3 : w2.frozen? ⟨w.heap.size + 1, 3, none⟩ = false := r2.free 3
    have d4 : w2.cell? ⟨w.heap.size + 1, 4, none⟩ = some (.slice none 0 0) := r2.cell 4
    have e4 : w2.frozen? ⟨w.heap.size + 1, 4, none⟩ = false := r2.free 4
    clear r1 r2 ht2 c0 c1 c2
    go_wp2
    refine bodyPost_ret (v := .agg #[.int .i64 (defVa t).kind, .int .i64 (defVa t).num, .string (defVa t).name, .slice T1 (defVa t).labels.length U1, .slice T2 (defVa t).args.length U2]) (by simp [results, Try.results34, go_sem, d0, d1, d2, d3, d4]) rfl ⟨_, rfl, ?_, ?_⟩
    · have hS : (((((w2.setCell ⟨w.heap.size + 1, 0, none⟩ (.int .i64 (defVa t).kind)).setCell ⟨w.heap.size + 1, 1, none⟩ (.int .i64 (defVa t).num)).setCell ⟨w.heap.size + 1, 2, none⟩ (.string (defVa t).name)).setCell ⟨w.heap.size + 1, 3, none⟩ (.slice T1 (defVa t).labels.length U1)).setCell ⟨w.heap.size + 1, 4, none⟩ (.slice T2 (defVa t).args.length U2)).heap.size = w2.heap.size := by simp [World.setCell]
      rw [hS, hr.out]
      have hzz := HZ.out
      refine (HT2.out.keep fun b hb' _ => ?_).wide fun b hb' => ⟨by have := hb'.1; omega, hb'.2⟩
      have hq : b ≠ w.heap.size + 1 := by have := hb'.1; omega
      rw [Below.heap_setCell _ _ _ _ hq, Below.heap_setCell _ _ _ _ hq, Below.heap_setCell _ _ _ _ hq, Below.heap_setCell _ _ _ _ hq, Below.heap_setCell _ _ _ _ hq]
    · exact ((((hb2'.setCell (by simp) _).setCell (by simp) _).setCell (by simp) _).setCell (by simp) _).setCell (by simp) _

end Go.Proofs.Ytinkanbaiflhdaa
