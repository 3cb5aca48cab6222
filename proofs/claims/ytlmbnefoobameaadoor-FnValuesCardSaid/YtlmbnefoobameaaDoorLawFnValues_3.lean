/- Lemmas: ImplDef, ImplIsVa, ImplIsVal. -/
import Derived.Test.YtlmbnefoobameaaDoorLawFnValues_1
import Derived.Test.YtlmbnefoobameaaDoorLawFnValues_2
import Derived.Deep.RegionHeld3
import Derived.Test.YtlmbnefoobameaaDoorImplIsName
import Derived.Test.YtlmbnefoobameaaDoorSpecVaForm
import Derived.Test.YtlmbnefoobameaaDoorNums
import Derived.Test.YtlmbnefoobameaaDoorVImplSize

section
namespace Go.Proofs.YtlmbnefoobameaaDoor
set_option maxRecDepth 100000
open Go.RowKit
attribute [local go_sem ↓] Go.wp_at_zero Go.wp_at_succ

theorem td_intForm_intForm (x : Value) (w : World) : (Instr.typeAssert (.iface 107 x) 104 107 true).run Tryd.prog w = .ok (.tuple #[x, .bool true]) w := by kernel_rfl
theorem td_boolForm_intForm (x : Value) (w : World) : (Instr.typeAssert (.iface 108 x) 104 107 true).run Tryd.prog w = .ok (.tuple #[.agg #[], .bool false]) w := by kernel_rfl
theorem td_boolForm_boolForm (x : Value) (w : World) : (Instr.typeAssert (.iface 108 x) 104 108 true).run Tryd.prog w = .ok (.tuple #[x, .bool true]) w := by kernel_rfl
theorem td_recForm_intForm (x : Value) (w : World) : (Instr.typeAssert (.iface 110 x) 104 107 true).run Tryd.prog w = .ok (.tuple #[.agg #[], .bool false]) w := by kernel_rfl
theorem td_recForm_boolForm (x : Value) (w : World) : (Instr.typeAssert (.iface 110 x) 104 108 true).run Tryd.prog w = .ok (.tuple #[.agg #[], .bool false]) w := by kernel_rfl
theorem td_recForm_recForm (x : Value) (w : World) : (Instr.typeAssert (.iface 110 x) 104 110 true).run Tryd.prog w = .ok (.tuple #[x, .bool true]) w := by kernel_rfl
theorem td_sumForm_intForm (x : Value) (w : World) : (Instr.typeAssert (.iface 112 x) 104 107 true).run Tryd.prog w = .ok (.tuple #[.agg #[], .bool false]) w := by kernel_rfl
theorem td_sumForm_boolForm (x : Value) (w : World) : (Instr.typeAssert (.iface 112 x) 104 108 true).run Tryd.prog w = .ok (.tuple #[.agg #[], .bool false]) w := by kernel_rfl
theorem td_sumForm_recForm (x : Value) (w : World) : (Instr.typeAssert (.iface 112 x) 104 110 true).run Tryd.prog w = .ok (.tuple #[.agg #[.slice none 0 0, .slice none 0 0], .bool false]) w := by kernel_rfl
theorem td_sumForm_sumForm (x : Value) (w : World) : (Instr.typeAssert (.iface 112 x) 104 112 true).run Tryd.prog w = .ok (.tuple #[x, .bool true]) w := by kernel_rfl
theorem td_listForm_intForm (x : Value) (w : World) : (Instr.typeAssert (.iface 115 x) 104 107 true).run Tryd.prog w = .ok (.tuple #[.agg #[], .bool false]) w := by kernel_rfl
theorem td_listForm_boolForm (x : Value) (w : World) : (Instr.typeAssert (.iface 115 x) 104 108 true).run Tryd.prog w = .ok (.tuple #[.agg #[], .bool false]) w := by kernel_rfl
theorem td_listForm_recForm (x : Value) (w : World) : (Instr.typeAssert (.iface 115 x) 104 110 true).run Tryd.prog w = .ok (.tuple #[.agg #[.slice none 0 0, .slice none 0 0], .bool false]) w := by kernel_rfl
theorem td_listForm_sumForm (x : Value) (w : World) : (Instr.typeAssert (.iface 115 x) 104 112 true).run Tryd.prog w = .ok (.tuple #[.agg #[.slice none 0 0, .slice none 0 0], .bool false]) w := by kernel_rfl
theorem td_listForm_listForm (x : Value) (w : World) : (Instr.typeAssert (.iface 115 x) 104 115 true).run Tryd.prog w = .ok (.tuple #[x, .bool true]) w := by kernel_rfl
set_option maxHeartbeats 8000000 in
theorem implDef_of (k0 : Int) (ls : List ByteArray) (ts : List Ty) (hall : ∀ i, (h : i < ts.length) → DefOne 40 ts[i]) : DefOne 40 (.mk k0 ls ts) := by
  intro v w hv hf hsz
  have hse := szTy_eq (.mk k0 ls ts)
  have hv0 := hv
  obtain ⟨L, lc, A, ac, rfl, hn, hz, hl, ha⟩ := hv.open
  simp only [Ty.kind, Ty.labels, Ty.args] at *
  obtain ⟨hnode, hf2⟩ := formTy_mk _ _ _ hf
  have hsub := Lib.hid (fun i (h : i < ts.length) (v : Value) (W : World) h2 => hall i h v W h2 (hf2 i h) (by have := szTy_part ts i h; omega))
  have hkinds := Lib.hid (nodeB_kind _ _ _ hnode)
  have hnl : ls.length < maxLen := by unfold maxLen; omega
  have hls : ∀ i, (h : i < ls.length) → ls[i].size ≤ 1048576 := fun i h => by have := size_le_sumSizes ls i h; omega
  have hm := ha.1
  unfold maxLen at hm
  have htl := szTys_len ts
  have HLS := Lib.hid hls
  have HN := Lib.hid hz
  have HNN := Lib.hid hn
  have HNT := Lib.hid hnode
  have HLW := Lib.hid hl
  have HAW := Lib.hid ha
  obtain ⟨hb0, p0, r0, hs0⟩ := boxes2 w 30 27 #[.int .i64 k0, .slice L ls.length lc, .slice A ts.length ac] #[.int .i64 0, .int .i64 0, .string ⟨#[]⟩, .slice none 0 0, .slice none 0 0]
  have HV := Lib.hid (formOf_any k0 ls ts L A lc ac _ (hv0.up hb0) hnl)
  have HZ := Lib.hid hs0
  clear hall hv hv0 hf hf2 hn hz hl ha hnode hs0 p0 hls
  go_enter Tryd.func40, Tryd.ntmps40
  go_wp2_with fail
  generalize (w.alloc (.cells #[.int .i64 k0, .slice L ls.length lc, .slice A ts.length ac] 30)).alloc (.cells #[.int .i64 0, .int .i64 0, .string ⟨#[]⟩, .slice none 0 0, .slice none 0 0] 27) = w0 at *
  refine HV.out.mono ?_
  rintro e w1 ⟨fv, rfl, hfv, hb1⟩
  have hb1' := hb0.trans (hb1.mono hb0.size)
  have r1 := r0.below hb1 r0.lt
  have hs1 : w.heap.size + 2 ≤ w1.heap.size := by have := HZ.out; have := hb1.size; omega
  clear HV hb0 hb1 r0
  rcases hfv with ⟨h0, _⟩ | ⟨_, hfv⟩
  · rw [HNT.out] at h0
    cases h0
  · rcases hfv with ⟨rfl, hts, rfl⟩ | ⟨rfl, hts, rfl⟩ | ⟨rfl, rfl⟩ | ⟨rfl, rfl⟩ | ⟨rfl, a, b, c, t1, rfl, ht1, rfl⟩
    · skip
      have haintForm := td_intForm_intForm
      have hb2 := (Below.refl w1.heap.size w1).alloc (Nat.le_refl _) (.cells #[] 107)
      have r2 := r1.below hb2 r1.lt
      have hb2' := hb1'.trans (hb2.mono hb1'.size)
      have d0 : (w1.alloc (.cells #[] 107)).cell? ⟨w.heap.size + 1, 0, none⟩ = some (.int .i64 0) := r2.cell 0
      have e0 : (w1.alloc (.cells #[] 107)).frozen? ⟨w.heap.size + 1, 0, none⟩ = false := r2.free 0
      have d1 : (w1.alloc (.cells #[] 107)).cell? ⟨w.heap.size + 1, 1, none⟩ = some (.int .i64 0) := r2.cell 1
      have e1 : (w1.alloc (.cells #[] 107)).frozen? ⟨w.heap.size + 1, 1, none⟩ = false := r2.free 1
      have d2 : (w1.alloc (.cells #[] 107)).cell? ⟨w.heap.size + 1, 2, none⟩ = some (.string ⟨#[]⟩) := r2.cell 2
      have e2 : (w1.alloc (.cells #[] 107)).frozen? ⟨w.heap.size + 1, 2, none⟩ = false := r2.free 2
      have d3 : (w1.alloc (.cells #[] 107)).cell? ⟨w.heap.size + 1, 3, none⟩ = some (.slice none 0 0) := r2.cell 3
      have e3 : (w1.alloc (.cells #[] 107)).frozen? ⟨w.heap.size + 1, 3, none⟩ = false := r2.free 3
      have d4 : (w1.alloc (.cells #[] 107)).cell? ⟨w.heap.size + 1, 4, none⟩ = some (.slice none 0 0) := r2.cell 4
      have e4 : (w1.alloc (.cells #[] 107)).frozen? ⟨w.heap.size + 1, 4, none⟩ = false := r2.free 4
      clear r1 r2 hts
      go_wp2
      refine bodyPost_ret (v := .agg #[.int .i64 1, .int .i64 0, .string ⟨#[]⟩, .slice none 0 0, .slice none 0 0]) (by simp [results, Tryd.results40, go_sem, d0, d1, d2, d3, d4]) rfl ⟨_, rfl, ?_, ?_⟩
      · rw [defVa_1]
        exact VaIn.leaf _ _ _ _ _ _ _ _ _ (by simp [ByteArray.size])
      · exact ((((hb2'.setCell (p := ⟨w.heap.size + 1, 0, none⟩) (Nat.le_succ _) _).setCell (p := ⟨w.heap.size + 1, 1, none⟩) (Nat.le_succ _) _).setCell (p := ⟨w.heap.size + 1, 2, none⟩) (Nat.le_succ _) _).setCell (p := ⟨w.heap.size + 1, 3, none⟩) (Nat.le_succ _) _).setCell (p := ⟨w.heap.size + 1, 4, none⟩) (Nat.le_succ _) _
    · skip
      have haintForm := td_boolForm_intForm
      have haboolForm := td_boolForm_boolForm
      have hb2 := (Below.refl w1.heap.size w1).alloc (Nat.le_refl _) (.cells #[] 108)
      have r2 := r1.below hb2 r1.lt
      have hb2' := hb1'.trans (hb2.mono hb1'.size)
      have d0 : (w1.alloc (.cells #[] 108)).cell? ⟨w.heap.size + 1, 0, none⟩ = some (.int .i64 0) := r2.cell 0
      have e0 : (w1.alloc (.cells #[] 108)).frozen? ⟨w.heap.size + 1, 0, none⟩ = false := r2.free 0
      have d1 : (w1.alloc (.cells #[] 108)).cell? ⟨w.heap.size + 1, 1, none⟩ = some (.int .i64 0) := r2.cell 1
      have e1 : (w1.alloc (.cells #[] 108)).frozen? ⟨w.heap.size + 1, 1, none⟩ = false := r2.free 1
      have d2 : (w1.alloc (.cells #[] 108)).cell? ⟨w.heap.size + 1, 2, none⟩ = some (.string ⟨#[]⟩) := r2.cell 2
      have e2 : (w1.alloc (.cells #[] 108)).frozen? ⟨w.heap.size + 1, 2, none⟩ = false := r2.free 2
      have d3 : (w1.alloc (.cells #[] 108)).cell? ⟨w.heap.size + 1, 3, none⟩ = some (.slice none 0 0) := r2.cell 3
      have e3 : (w1.alloc (.cells #[] 108)).frozen? ⟨w.heap.size + 1, 3, none⟩ = false := r2.free 3
      have d4 : (w1.alloc (.cells #[] 108)).cell? ⟨w.heap.size + 1, 4, none⟩ = some (.slice none 0 0) := r2.cell 4
      have e4 : (w1.alloc (.cells #[] 108)).frozen? ⟨w.heap.size + 1, 4, none⟩ = false := r2.free 4
      clear r1 r2 hts
      go_wp2
      refine bodyPost_ret (v := .agg #[.int .i64 2, .int .i64 0, .string ⟨#[]⟩, .slice none 0 0, .slice none 0 0]) (by simp [results, Tryd.results40, go_sem, d0, d1, d2, d3, d4]) rfl ⟨_, rfl, ?_, ?_⟩
      · rw [defVa_2]
        exact VaIn.leaf _ _ _ _ _ _ _ _ _ (by simp [ByteArray.size])
      · exact ((((hb2'.setCell (p := ⟨w.heap.size + 1, 0, none⟩) (Nat.le_succ _) _).setCell (p := ⟨w.heap.size + 1, 1, none⟩) (Nat.le_succ _) _).setCell (p := ⟨w.heap.size + 1, 2, none⟩) (Nat.le_succ _) _).setCell (p := ⟨w.heap.size + 1, 3, none⟩) (Nat.le_succ _) _).setCell (p := ⟨w.heap.size + 1, 4, none⟩) (Nat.le_succ _) _
    · skip
      have haintForm := td_recForm_intForm
      have haboolForm := td_recForm_boolForm
      have harecForm := td_recForm_recForm
      obtain ⟨hb2, f2, hs2⟩ := boxes1 w1 110 #[.slice L ls.length lc, .slice A ts.length ac]
      have hb2' := hb1'.trans (hb2.mono hb1'.size)
      have r2 := r1.below hb2 r1.lt
      have ha0 := (HAW.out.up hb1').up hb2
      have hl0 := Lib.hid ((HLW.out.up' hb1').up' hb2)
      have hs2 := hb2.size
      obtain ⟨i1, hi1, hy0, hy1, hy2⟩ := info_parts infoValue
      have HRL := Lib.hid (fun k (hk : k < ts.length) => (show k < (defVas ts).length by rw [defVas_len]; exact hk))
      have HRN := Lib.hid (defVas_len ts)
      have hfl : w1.heap.size < (w1.alloc (.cells #[.slice L ls.length lc, .slice A ts.length ac] 110)).heap.size := f2.lt
      clear r1
      go_wp2
      generalize w1.alloc (.cells #[.slice L ls.length lc, .slice A ts.length ac] 110) = w2 at *
      have hrl := r2.lt
      go_loopw [6, 27] (fun v i wr => ∃ k : Nat, k ≤ ts.length ∧ i = .int .i64 k ∧ VGather wr w2.heap.size v k (defVas ts) ∧ Below w2.heap.size w2 wr) (fun _ i _ => ts.length - (intOf i).toNat)
      case atStart => exact ⟨0, Nat.zero_le _, rfl, VGather.start _ _ _, Below.refl _ _⟩
      case round =>
        obtain ⟨k, hk, rfl, hga, hb⟩ := hrel
        have hbs := hb.size
        by_cases hlt : k < ts.length
        · obtain ⟨b, off, M, mc, C, cc, rfl, hbl, e0, e1, e2, _, _, _, _, ht⟩ := (ha0.below hb).elem k hlt
          have hbx := (Below.refl wr.heap.size wr).alloc (Nat.le_refl _) (.cells #[.int .i64 ts[k].kind, .slice M ts[k].labels.length mc, .slice C ts[k].args.length cc] 30)
          have HT := Lib.hid (hsub.out k hlt _ _ ((ht.more hbs).up hbx))
          obtain ⟨xs, vs, lo, hi', hG0⟩ := hga.below hbx
          have HG := Lib.hid hG0
          have HOWN := Lib.hid hG0.own
          have hbx' := hb.trans (hbx.mono hbs)
          have hsx := hbx'.size
          have HBX := Lib.hid hbx'
          have hrl2 := HRL.out k hlt
          clear hga hG0 ht hbx hbx' hb
          go_wp2_with fail
          generalize wr.alloc (.cells #[.int .i64 ts[k].kind, .slice M ts[k].labels.length mc, .slice C ts[k].args.length cc] 30) = wx at *
          refine HT.out.mono ?_
          rintro e w3 ⟨v1, rfl, ht1, hb1⟩
          have HT1 := Lib.hid ht1
          obtain ⟨T1, U1, T2, U2, _, rfl, _⟩ := ht1.open
          clear ht1 e0 e1 e2
          have hs1 := hb1.size
          have hown1 := (own_keep5 HOWN.out fun g hg => hb1.block g (HOWN.out.lt g hg).2).alloc (.cells #[.int .i64 (defVa ts[k]).kind, .int .i64 (defVa ts[k]).num, .string (defVa ts[k]).name, .slice T1 (defVa ts[k]).labels.length U1, .slice T2 (defVa ts[k]).args.length U2] 27)
          have hnews := news5 w3 27 (.int .i64 (defVa ts[k]).kind) (.int .i64 (defVa ts[k]).num) (.string (defVa ts[k]).name) (.slice T1 (defVa ts[k]).labels.length U1) (.slice T2 (defVa ts[k]).args.length U2)
          have HB1 := Lib.hid hb1
          clear hb1
          go_wp2_with (at_builtin; refine wpList_append_lies _ rfl (.tmp 31) (.tmp 34) _ rfl w2.heap.size 27 i1 (.agg #[.int .i64 0, .int .i64 0, .string ⟨#[]⟩, .slice none 0 0, .slice none 0 0]) 5 80 Tryd.underlying25 hi1 hy0 hy1 hy2 rfl (by decide) _ k xs rfl hown1 ⟨w3.heap.size, 0, none⟩ 1 1 [.int .i64 (defVa ts[k]).kind, .int .i64 (defVa ts[k]).num, .string (defVa ts[k]).name, .slice T1 (defVa ts[k]).labels.length U1, .slice T2 (defVa ts[k]).args.length U2] rfl rfl hnews.1 hnews.2 (by omega) (by unfold maxLen; omega) (by omega) (by simp; omega) (w3.heap.size + 1) (by simp) ?_; intro g cap w4 hown3 hg3 hat3 hlt3)
          have HOWN3 := Lib.hid hown3
          have HG3 := Lib.hid hg3
          have HAT := Lib.hid hat3
          clear hown3 hg3 hat3 hown1 hnews
          go_wp2
          go_roundw
          case rel =>
            refine ⟨k + 1, by omega, by go_num, HG.out.step HB1.out (by omega) hrl2 (by rw [defVas_at ts k hlt hrl2]; exact HT1.out) HOWN3.out HG3.out HAT.out, ?_⟩
            have hvb := fun g hg => (HOWN.out.lt g hg).1
            exact ((HBX.out.trans (HB1.out.mono hsx)).alloc (by omega) _).grown HG3.out (by simp; omega) hvb
          case measure => simp [intOf]; omega
        · have hke : k = ts.length := by omega
          subst hke
          have r3 := r2.below hb hrl
          have f3 := f2.below hb hfl
          obtain ⟨A2, c2, rfl⟩ : ∃ A2 c2, u6 = .slice A2 ts.length c2 := by
            obtain ⟨xs, vs, lo, hi', hG⟩ := hga
            rcases hG.own.2 with ⟨h1, h2⟩ | ⟨g, cap, cur, h1, _⟩
            · exact ⟨none, 0, by rw [h1, h2]⟩
            · exact ⟨_, _, h1⟩
          have hdone : VasIn wr (Span w2.heap.size wr.heap.size) A2 (defVas ts) := by
            have h1 := HRN.out
            rw [← h1] at hga
            exact hga.done (by rw [h1]; unfold maxLen; omega)
          have HD := Lib.hid hdone
          have HCN := Lib.hid (copyNames_any L lc ls wr (hl0.out.up' hb) (by omega) HLS.out)
          have hflr : w1.heap.size < wr.heap.size := f3.lt
          have hrlr : w.heap.size + 1 < wr.heap.size := r3.lt
          have y0 : wr.cell? ⟨w1.heap.size, 0, none⟩ = some (.slice L ls.length lc) := f3.cell 0
          have HB := Lib.hid hb
          clear hga hdone f3 hb
          go_wp2_with fail
          refine HCN.out.mono ?_
          rintro e wC ⟨vn, rfl, hownC, hbC⟩
          obtain ⟨A1, c1', rfl, hrow⟩ := own_form (ss := ls) hownC rfl
          have rC := r3.below hbC hrlr
          have d0 : wC.cell? ⟨w.heap.size + 1, 0, none⟩ = some (.int .i64 0) := rC.cell 0
          have e0 : wC.frozen? ⟨w.heap.size + 1, 0, none⟩ = false := rC.free 0
          have d1 : wC.cell? ⟨w.heap.size + 1, 1, none⟩ = some (.int .i64 0) := rC.cell 1
          have e1 : wC.frozen? ⟨w.heap.size + 1, 1, none⟩ = false := rC.free 1
          have d2 : wC.cell? ⟨w.heap.size + 1, 2, none⟩ = some (.string ⟨#[]⟩) := rC.cell 2
          have e2 : wC.frozen? ⟨w.heap.size + 1, 2, none⟩ = false := rC.free 2
          have d3 : wC.cell? ⟨w.heap.size + 1, 3, none⟩ = some (.slice none 0 0) := rC.cell 3
          have e3 : wC.frozen? ⟨w.heap.size + 1, 3, none⟩ = false := rC.free 3
          have d4 : wC.cell? ⟨w.heap.size + 1, 4, none⟩ = some (.slice none 0 0) := rC.cell 4
          have e4 : wC.frozen? ⟨w.heap.size + 1, 4, none⟩ = false := rC.free 4
          have HRow := Lib.hid hrow
          have HbC := Lib.hid hbC
          clear hrow hownC hbC rC y0
          go_wp2
          refine bodyPost_ret (v := .agg #[.int .i64 3, .int .i64 0, .string ⟨#[]⟩, .slice A1 ls.length c1', .slice A2 ts.length c2]) (by simp [results, Tryd.results40, go_sem, d0, d1, d2, d3, d4]) rfl ⟨_, rfl, ?_, ?_⟩
          · have hS : (((((wC.setCell ⟨w.heap.size + 1, 0, none⟩ (.int .i64 3)).setCell ⟨w.heap.size + 1, 1, none⟩ (.int .i64 0)).setCell ⟨w.heap.size + 1, 2, none⟩ (.string ⟨#[]⟩)).setCell ⟨w.heap.size + 1, 3, none⟩ (.slice A1 ls.length c1')).setCell ⟨w.heap.size + 1, 4, none⟩ (.slice A2 ts.length c2)).heap.size = wC.heap.size := by simp [World.setCell]
            have hk' : ∀ q, q ≠ w.heap.size + 1 → (((((wC.setCell ⟨w.heap.size + 1, 0, none⟩ (.int .i64 3)).setCell ⟨w.heap.size + 1, 1, none⟩ (.int .i64 0)).setCell ⟨w.heap.size + 1, 2, none⟩ (.string ⟨#[]⟩)).setCell ⟨w.heap.size + 1, 3, none⟩ (.slice A1 ls.length c1')).setCell ⟨w.heap.size + 1, 4, none⟩ (.slice A2 ts.length c2)).heap[q]? = wC.heap[q]? := fun q hq => by rw [Below.heap_setCell _ _ _ _ hq, Below.heap_setCell _ _ _ _ hq, Below.heap_setCell _ _ _ _ hq, Below.heap_setCell _ _ _ _ hq, Below.heap_setCell _ _ _ _ hq]
            rw [hS, defVa_3]
            have hsC := HbC.out.size
            have hbsz := HB.out.size
            have hD2 := (HD.out.keep (w' := wC) fun b hb' hbl => HbC.out.block b hbl).keep (w' := (((((wC.setCell ⟨w.heap.size + 1, 0, none⟩ (.int .i64 3)).setCell ⟨w.heap.size + 1, 1, none⟩ (.int .i64 0)).setCell ⟨w.heap.size + 1, 2, none⟩ (.string ⟨#[]⟩)).setCell ⟨w.heap.size + 1, 3, none⟩ (.slice A1 ls.length c1')).setCell ⟨w.heap.size + 1, 4, none⟩ (.slice A2 ts.length c2))) fun b hb' _ => hk' b (by have := hb'.1; omega)
            have hrn := HRN.out
            rcases HRow.out with hl0' | ⟨g, hA1, hg0, hrg⟩
            · have h9 := VaIn.of (t := .mk 3 0 ⟨#[]⟩ ls (defVas ts)) (L := A1) (lc := c1') (ac := c2) (gl := 0) (S := Span w.heap.size wC.heap.size) (by simp [Va.name, ByteArray.size]) HNN.out HN.out (.inl hl0') hD2 fun b hb' => ⟨⟨by have := hb'.1; omega, by have := hb'.2; omega⟩, by have := hb'.1; omega⟩
              simp only [Va.kind, Va.num, Va.name, Va.labels, Va.args, hrn] at h9
              exact h9
            · have hgl := hrg.lt
              have hg1 : wr.heap.size ≤ g := hg0
              have h9 := VaIn.of (t := .mk 3 0 ⟨#[]⟩ ls (defVas ts)) (L := A1) (lc := c1') (ac := c2) (gl := g) (S := Span w.heap.size wC.heap.size) (by simp [Va.name, ByteArray.size]) HNN.out HN.out (.inr ⟨hA1, ⟨by omega, by omega⟩, hrg.same (hk' g (by omega))⟩) hD2 fun b hb' => ⟨⟨by have := hb'.1; omega, by have := hb'.2; omega⟩, by have := hb'.2; omega⟩
              simp only [Va.kind, Va.num, Va.name, Va.labels, Va.args, hrn] at h9
              exact h9
          · exact (((((hb2'.trans ((HB.out.trans (HbC.out.mono HB.out.size)).mono hb2'.size)).setCell (p := ⟨w.heap.size + 1, 0, none⟩) (Nat.le_succ _) _).setCell (p := ⟨w.heap.size + 1, 1, none⟩) (Nat.le_succ _) _).setCell (p := ⟨w.heap.size + 1, 2, none⟩) (Nat.le_succ _) _).setCell (p := ⟨w.heap.size + 1, 3, none⟩) (Nat.le_succ _) _).setCell (p := ⟨w.heap.size + 1, 4, none⟩) (Nat.le_succ _) _
    · skip
      have haintForm := td_sumForm_intForm
      have haboolForm := td_sumForm_boolForm
      have harecForm := td_sumForm_recForm
      have hasumForm := td_sumForm_sumForm
      have hpos : 0 < ls.length ∧ 0 < ts.length := by
        rcases hkinds.out with h | ⟨_, h1, h2⟩ | h
        · omega
        · omega
        · omega
      obtain ⟨h0l, h0t⟩ := hpos
      have h0lI : (0 : Int) < (ls.length : Int) := by omega
      have h0tI : (0 : Int) < (ts.length : Int) := by omega
      obtain ⟨b, off, rfl, hbw1, q2a⟩ := HLW.out 0 h0l
      obtain ⟨b', off', M, mc, C, cc, rfl, hbw1', q3a, q4a, q5a, _, _, _, _, ht⟩ := HAW.out.elem 0 h0t
      rw [Nat.zero_mul, Nat.add_zero] at q3a q4a q5a
      rw [Nat.add_zero] at q2a
      obtain ⟨hb2, f2, hs2⟩ := boxes1 w1 112 #[.slice (some ⟨b, off, none⟩) ls.length lc, .slice (some ⟨b', off', none⟩) ts.length ac]
      have hb2' := hb1'.trans (hb2.mono hb1'.size)
      have r2 := Lib.hid (r1.below hb2 r1.lt)
      have q0 : (w1.alloc (.cells #[.slice (some ⟨b, off, none⟩) ls.length lc, .slice (some ⟨b', off', none⟩) ts.length ac] 112)).cell? ⟨w1.heap.size, 0, none⟩ = some (.slice (some ⟨b, off, none⟩) ls.length lc) := f2.cell 0
      have q1 : (w1.alloc (.cells #[.slice (some ⟨b, off, none⟩) ls.length lc, .slice (some ⟨b', off', none⟩) ts.length ac] 112)).cell? ⟨w1.heap.size, 1, none⟩ = some (.slice (some ⟨b', off', none⟩) ts.length ac) := f2.cell 1
      have q2 := (hb2'.cell (p := ⟨b, off, none⟩) hbw1).trans q2a
      have q3 := (hb2'.cell (p := ⟨b', off', none⟩) hbw1').trans q3a
      have q4 := (hb2'.cell (p := ⟨b', off' + 1, none⟩) hbw1').trans q4a
      have q5 := (hb2'.cell (p := ⟨b', off' + 2, none⟩) hbw1').trans q5a
      have ht0 := ht.up hb2'
      have hfl : w1.heap.size < (w1.alloc (.cells #[.slice (some ⟨b, off, none⟩) ls.length lc, .slice (some ⟨b', off', none⟩) ts.length ac] 112)).heap.size := f2.lt
      have hbw : b < (w1.alloc (.cells #[.slice (some ⟨b, off, none⟩) ls.length lc, .slice (some ⟨b', off', none⟩) ts.length ac] 112)).heap.size := by omega
      have hbw' : b' < (w1.alloc (.cells #[.slice (some ⟨b, off, none⟩) ls.length lc, .slice (some ⟨b', off', none⟩) ts.length ac] 112)).heap.size := by omega
      have HT := Lib.hid (fun W (h : Below (w1.alloc (.cells #[.slice (some ⟨b, off, none⟩) ls.length lc, .slice (some ⟨b', off', none⟩) ts.length ac] 112)).heap.size (w1.alloc (.cells #[.slice (some ⟨b, off, none⟩) ls.length lc, .slice (some ⟨b', off', none⟩) ts.length ac] 112)) W) => hsub.out 0 h0t _ W (ht0.up h))
      have hl00 := HLS.out 0 h0l
      have HR0 := Lib.hid r2.out.lt
      clear r1 f2 q2a q3a q4a q5a ht ht0
      go_upto_region 19 with fail
      generalize w1.alloc (.cells #[.slice (some ⟨b, off, none⟩) ls.length lc, .slice (some ⟨b', off', none⟩) ts.length ac] 112) = w2 at *
      have ed := (Below.refl w2.heap.size w2).drew
      go_region_held3 (fun x => x.cell? ⟨w1.heap.size, 0, none⟩ = some (.slice (some ⟨b, off, none⟩) ls.length lc) ∧ x.cell? ⟨w1.heap.size, 1, none⟩ = some (.slice (some ⟨b', off', none⟩) ts.length ac) ∧ x.cell? ⟨b, off, none⟩ = some (.string ls[0]) ∧ x.cell? ⟨b', off', none⟩ = some (.int .i64 ts[0].kind) ∧ x.cell? ⟨b', off' + 1, none⟩ = some (.slice M ts[0].labels.length mc) ∧ x.cell? ⟨b', off' + 2, none⟩ = some (.slice C ts[0].args.length cc)) ((first | (with_reducible exact ⟨(ed.cell (p := ⟨w1.heap.size, 0, none⟩) hfl).trans q0, (ed.cell (p := ⟨w1.heap.size, 1, none⟩) hfl).trans q1, (ed.cell (p := ⟨b, off, none⟩) hbw).trans q2, (ed.cell (p := ⟨b', off', none⟩) hbw').trans q3, (ed.cell (p := ⟨b', off' + 1, none⟩) hbw').trans q4, (ed.cell (p := ⟨b', off' + 2, none⟩) hbw').trans q5⟩) | (with_reducible exact ⟨k0, k1, k2, k3, k4, k5⟩) | (with_reducible exact ⟨m0, m1, m2, m3, m4, m5⟩) | (with_reducible exact ⟨n0, n1, n2, n3, n4, n5⟩) | (with_reducible exact ⟨s0, s1, s2, s3, s4, s5⟩)))
        (first | (go_at_call 79; refine (clone_any ls[0] _ (by omega)).mono ?_; rintro e wC ⟨rfl, hbc⟩; have hbC := ed.trans hbc; have k0 := (hbC.cell (p := ⟨w1.heap.size, 0, none⟩) hfl).trans q0; have k1 := (hbC.cell (p := ⟨w1.heap.size, 1, none⟩) hfl).trans q1; have k2 := (hbC.cell (p := ⟨b, off, none⟩) hbw).trans q2; have k3 := (hbC.cell (p := ⟨b', off', none⟩) hbw').trans q3; have k4 := (hbC.cell (p := ⟨b', off' + 1, none⟩) hbw').trans q4; have k5 := (hbC.cell (p := ⟨b', off' + 2, none⟩) hbw').trans q5) | (go_at_call 40; refine (HT.out _ hbC).mono ?_; rintro e wD ⟨v1, rfl, ht1, hb1⟩; have HT1 := Lib.hid ht1; obtain ⟨T1, U1, T2, U2, _, rfl, _⟩ := ht1.open; clear ht1; have hbD := hbC.trans (hb1.mono hbC.size); have hbA := hbD.alloc hbD.size (.cells #[.int .i64 (defVa ts[0]).kind, .int .i64 (defVa ts[0]).num, .string (defVa ts[0]).name, .slice T1 (defVa ts[0]).labels.length U1, .slice T2 (defVa ts[0]).args.length U2] 27); have r3 := (r2.out.below hbA HR0.out); have m0 := (hbD.cell (p := ⟨w1.heap.size, 0, none⟩) hfl).trans q0; have m1 := (hbD.cell (p := ⟨w1.heap.size, 1, none⟩) hfl).trans q1; have m2 := (hbD.cell (p := ⟨b, off, none⟩) hbw).trans q2; have m3 := (hbD.cell (p := ⟨b', off', none⟩) hbw').trans q3; have m4 := (hbD.cell (p := ⟨b', off' + 1, none⟩) hbw').trans q4; have m5 := (hbD.cell (p := ⟨b', off' + 2, none⟩) hbw').trans q5; have n0 := (hbA.cell (p := ⟨w1.heap.size, 0, none⟩) hfl).trans q0; have n1 := (hbA.cell (p := ⟨w1.heap.size, 1, none⟩) hfl).trans q1; have n2 := (hbA.cell (p := ⟨b, off, none⟩) hbw).trans q2; have n3 := (hbA.cell (p := ⟨b', off', none⟩) hbw').trans q3; have n4 := (hbA.cell (p := ⟨b', off' + 1, none⟩) hbw').trans q4; have n5 := (hbA.cell (p := ⟨b', off' + 2, none⟩) hbw').trans q5; have d0 : (wD.alloc (.cells #[.int .i64 (defVa ts[0]).kind, .int .i64 (defVa ts[0]).num, .string (defVa ts[0]).name, .slice T1 (defVa ts[0]).labels.length U1, .slice T2 (defVa ts[0]).args.length U2] 27)).cell? ⟨w.heap.size + 1, 0, none⟩ = some (.int .i64 0) := r3.cell 0; have e0 : (wD.alloc (.cells #[.int .i64 (defVa ts[0]).kind, .int .i64 (defVa ts[0]).num, .string (defVa ts[0]).name, .slice T1 (defVa ts[0]).labels.length U1, .slice T2 (defVa ts[0]).args.length U2] 27)).frozen? ⟨w.heap.size + 1, 0, none⟩ = false := r3.free 0; have d1 : (wD.alloc (.cells #[.int .i64 (defVa ts[0]).kind, .int .i64 (defVa ts[0]).num, .string (defVa ts[0]).name, .slice T1 (defVa ts[0]).labels.length U1, .slice T2 (defVa ts[0]).args.length U2] 27)).cell? ⟨w.heap.size + 1, 1, none⟩ = some (.int .i64 0) := r3.cell 1; have e1 : (wD.alloc (.cells #[.int .i64 (defVa ts[0]).kind, .int .i64 (defVa ts[0]).num, .string (defVa ts[0]).name, .slice T1 (defVa ts[0]).labels.length U1, .slice T2 (defVa ts[0]).args.length U2] 27)).frozen? ⟨w.heap.size + 1, 1, none⟩ = false := r3.free 1; have d2 : (wD.alloc (.cells #[.int .i64 (defVa ts[0]).kind, .int .i64 (defVa ts[0]).num, .string (defVa ts[0]).name, .slice T1 (defVa ts[0]).labels.length U1, .slice T2 (defVa ts[0]).args.length U2] 27)).cell? ⟨w.heap.size + 1, 2, none⟩ = some (.string ⟨#[]⟩) := r3.cell 2; have e2 : (wD.alloc (.cells #[.int .i64 (defVa ts[0]).kind, .int .i64 (defVa ts[0]).num, .string (defVa ts[0]).name, .slice T1 (defVa ts[0]).labels.length U1, .slice T2 (defVa ts[0]).args.length U2] 27)).frozen? ⟨w.heap.size + 1, 2, none⟩ = false := r3.free 2; have d3 : (wD.alloc (.cells #[.int .i64 (defVa ts[0]).kind, .int .i64 (defVa ts[0]).num, .string (defVa ts[0]).name, .slice T1 (defVa ts[0]).labels.length U1, .slice T2 (defVa ts[0]).args.length U2] 27)).cell? ⟨w.heap.size + 1, 3, none⟩ = some (.slice none 0 0) := r3.cell 3; have e3 : (wD.alloc (.cells #[.int .i64 (defVa ts[0]).kind, .int .i64 (defVa ts[0]).num, .string (defVa ts[0]).name, .slice T1 (defVa ts[0]).labels.length U1, .slice T2 (defVa ts[0]).args.length U2] 27)).frozen? ⟨w.heap.size + 1, 3, none⟩ = false := r3.free 3; have d4 : (wD.alloc (.cells #[.int .i64 (defVa ts[0]).kind, .int .i64 (defVa ts[0]).num, .string (defVa ts[0]).name, .slice T1 (defVa ts[0]).labels.length U1, .slice T2 (defVa ts[0]).args.length U2] 27)).cell? ⟨w.heap.size + 1, 4, none⟩ = some (.slice none 0 0) := r3.cell 4; have e4 : (wD.alloc (.cells #[.int .i64 (defVa ts[0]).kind, .int .i64 (defVa ts[0]).num, .string (defVa ts[0]).name, .slice T1 (defVa ts[0]).labels.length U1, .slice T2 (defVa ts[0]).args.length U2] 27)).frozen? ⟨w.heap.size + 1, 4, none⟩ = false := r3.free 4; have s0 : ((((((wD.alloc (.cells #[.int .i64 (defVa ts[0]).kind, .int .i64 (defVa ts[0]).num, .string (defVa ts[0]).name, .slice T1 (defVa ts[0]).labels.length U1, .slice T2 (defVa ts[0]).args.length U2] 27)).setCell ⟨w.heap.size + 1, 0, none⟩ (.int .i64 4)).setCell ⟨w.heap.size + 1, 1, none⟩ (.int .i64 0)).setCell ⟨w.heap.size + 1, 2, none⟩ (.string ls[0])).setCell ⟨w.heap.size + 1, 3, none⟩ (.slice none 0 0)).setCell ⟨w.heap.size + 1, 4, none⟩ (.slice (some ⟨wD.heap.size, 0, none⟩) 1 1)).cell? ⟨w1.heap.size, 0, none⟩ = _ := (World.cell?_of_block (a := ⟨w1.heap.size, 0, none⟩) (show ((((((wD.alloc (.cells #[.int .i64 (defVa ts[0]).kind, .int .i64 (defVa ts[0]).num, .string (defVa ts[0]).name, .slice T1 (defVa ts[0]).labels.length U1, .slice T2 (defVa ts[0]).args.length U2] 27)).setCell ⟨w.heap.size + 1, 0, none⟩ (.int .i64 4)).setCell ⟨w.heap.size + 1, 1, none⟩ (.int .i64 0)).setCell ⟨w.heap.size + 1, 2, none⟩ (.string ls[0])).setCell ⟨w.heap.size + 1, 3, none⟩ (.slice none 0 0)).setCell ⟨w.heap.size + 1, 4, none⟩ (.slice (some ⟨wD.heap.size, 0, none⟩) 1 1)).heap[w1.heap.size]? = (wD.alloc (.cells #[.int .i64 (defVa ts[0]).kind, .int .i64 (defVa ts[0]).num, .string (defVa ts[0]).name, .slice T1 (defVa ts[0]).labels.length U1, .slice T2 (defVa ts[0]).args.length U2] 27)).heap[w1.heap.size]? by have hq : w1.heap.size ≠ w.heap.size + 1 := (by omega); rw [Below.heap_setCell _ _ _ _ hq, Below.heap_setCell _ _ _ _ hq, Below.heap_setCell _ _ _ _ hq, Below.heap_setCell _ _ _ _ hq, Below.heap_setCell _ _ _ _ hq])).trans n0; have s1 : ((((((wD.alloc (.cells #[.int .i64 (defVa ts[0]).kind, .int .i64 (defVa ts[0]).num, .string (defVa ts[0]).name, .slice T1 (defVa ts[0]).labels.length U1, .slice T2 (defVa ts[0]).args.length U2] 27)).setCell ⟨w.heap.size + 1, 0, none⟩ (.int .i64 4)).setCell ⟨w.heap.size + 1, 1, none⟩ (.int .i64 0)).setCell ⟨w.heap.size + 1, 2, none⟩ (.string ls[0])).setCell ⟨w.heap.size + 1, 3, none⟩ (.slice none 0 0)).setCell ⟨w.heap.size + 1, 4, none⟩ (.slice (some ⟨wD.heap.size, 0, none⟩) 1 1)).cell? ⟨w1.heap.size, 1, none⟩ = _ := (World.cell?_of_block (a := ⟨w1.heap.size, 1, none⟩) (show ((((((wD.alloc (.cells #[.int .i64 (defVa ts[0]).kind, .int .i64 (defVa ts[0]).num, .string (defVa ts[0]).name, .slice T1 (defVa ts[0]).labels.length U1, .slice T2 (defVa ts[0]).args.length U2] 27)).setCell ⟨w.heap.size + 1, 0, none⟩ (.int .i64 4)).setCell ⟨w.heap.size + 1, 1, none⟩ (.int .i64 0)).setCell ⟨w.heap.size + 1, 2, none⟩ (.string ls[0])).setCell ⟨w.heap.size + 1, 3, none⟩ (.slice none 0 0)).setCell ⟨w.heap.size + 1, 4, none⟩ (.slice (some ⟨wD.heap.size, 0, none⟩) 1 1)).heap[w1.heap.size]? = (wD.alloc (.cells #[.int .i64 (defVa ts[0]).kind, .int .i64 (defVa ts[0]).num, .string (defVa ts[0]).name, .slice T1 (defVa ts[0]).labels.length U1, .slice T2 (defVa ts[0]).args.length U2] 27)).heap[w1.heap.size]? by have hq : w1.heap.size ≠ w.heap.size + 1 := (by omega); rw [Below.heap_setCell _ _ _ _ hq, Below.heap_setCell _ _ _ _ hq, Below.heap_setCell _ _ _ _ hq, Below.heap_setCell _ _ _ _ hq, Below.heap_setCell _ _ _ _ hq])).trans n1; have s2 : ((((((wD.alloc (.cells #[.int .i64 (defVa ts[0]).kind, .int .i64 (defVa ts[0]).num, .string (defVa ts[0]).name, .slice T1 (defVa ts[0]).labels.length U1, .slice T2 (defVa ts[0]).args.length U2] 27)).setCell ⟨w.heap.size + 1, 0, none⟩ (.int .i64 4)).setCell ⟨w.heap.size + 1, 1, none⟩ (.int .i64 0)).setCell ⟨w.heap.size + 1, 2, none⟩ (.string ls[0])).setCell ⟨w.heap.size + 1, 3, none⟩ (.slice none 0 0)).setCell ⟨w.heap.size + 1, 4, none⟩ (.slice (some ⟨wD.heap.size, 0, none⟩) 1 1)).cell? ⟨b, off, none⟩ = _ := (World.cell?_of_block (a := ⟨b, off, none⟩) (show ((((((wD.alloc (.cells #[.int .i64 (defVa ts[0]).kind, .int .i64 (defVa ts[0]).num, .string (defVa ts[0]).name, .slice T1 (defVa ts[0]).labels.length U1, .slice T2 (defVa ts[0]).args.length U2] 27)).setCell ⟨w.heap.size + 1, 0, none⟩ (.int .i64 4)).setCell ⟨w.heap.size + 1, 1, none⟩ (.int .i64 0)).setCell ⟨w.heap.size + 1, 2, none⟩ (.string ls[0])).setCell ⟨w.heap.size + 1, 3, none⟩ (.slice none 0 0)).setCell ⟨w.heap.size + 1, 4, none⟩ (.slice (some ⟨wD.heap.size, 0, none⟩) 1 1)).heap[b]? = (wD.alloc (.cells #[.int .i64 (defVa ts[0]).kind, .int .i64 (defVa ts[0]).num, .string (defVa ts[0]).name, .slice T1 (defVa ts[0]).labels.length U1, .slice T2 (defVa ts[0]).args.length U2] 27)).heap[b]? by have hq : b ≠ w.heap.size + 1 := (by omega); rw [Below.heap_setCell _ _ _ _ hq, Below.heap_setCell _ _ _ _ hq, Below.heap_setCell _ _ _ _ hq, Below.heap_setCell _ _ _ _ hq, Below.heap_setCell _ _ _ _ hq])).trans n2; have s3 : ((((((wD.alloc (.cells #[.int .i64 (defVa ts[0]).kind, .int .i64 (defVa ts[0]).num, .string (defVa ts[0]).name, .slice T1 (defVa ts[0]).labels.length U1, .slice T2 (defVa ts[0]).args.length U2] 27)).setCell ⟨w.heap.size + 1, 0, none⟩ (.int .i64 4)).setCell ⟨w.heap.size + 1, 1, none⟩ (.int .i64 0)).setCell ⟨w.heap.size + 1, 2, none⟩ (.string ls[0])).setCell ⟨w.heap.size + 1, 3, none⟩ (.slice none 0 0)).setCell ⟨w.heap.size + 1, 4, none⟩ (.slice (some ⟨wD.heap.size, 0, none⟩) 1 1)).cell? ⟨b', off', none⟩ = _ := (World.cell?_of_block (a := ⟨b', off', none⟩) (show ((((((wD.alloc (.cells #[.int .i64 (defVa ts[0]).kind, .int .i64 (defVa ts[0]).num, .string (defVa ts[0]).name, .slice T1 (defVa ts[0]).labels.length U1, .slice T2 (defVa ts[0]).args.length U2] 27)).setCell ⟨w.heap.size + 1, 0, none⟩ (.int .i64 4)).setCell ⟨w.heap.size + 1, 1, none⟩ (.int .i64 0)).setCell ⟨w.heap.size + 1, 2, none⟩ (.string ls[0])).setCell ⟨w.heap.size + 1, 3, none⟩ (.slice none 0 0)).setCell ⟨w.heap.size + 1, 4, none⟩ (.slice (some ⟨wD.heap.size, 0, none⟩) 1 1)).heap[b']? = (wD.alloc (.cells #[.int .i64 (defVa ts[0]).kind, .int .i64 (defVa ts[0]).num, .string (defVa ts[0]).name, .slice T1 (defVa ts[0]).labels.length U1, .slice T2 (defVa ts[0]).args.length U2] 27)).heap[b']? by have hq : b' ≠ w.heap.size + 1 := (by omega); rw [Below.heap_setCell _ _ _ _ hq, Below.heap_setCell _ _ _ _ hq, Below.heap_setCell _ _ _ _ hq, Below.heap_setCell _ _ _ _ hq, Below.heap_setCell _ _ _ _ hq])).trans n3; have s4 : ((((((wD.alloc (.cells #[.int .i64 (defVa ts[0]).kind, .int .i64 (defVa ts[0]).num, .string (defVa ts[0]).name, .slice T1 (defVa ts[0]).labels.length U1, .slice T2 (defVa ts[0]).args.length U2] 27)).setCell ⟨w.heap.size + 1, 0, none⟩ (.int .i64 4)).setCell ⟨w.heap.size + 1, 1, none⟩ (.int .i64 0)).setCell ⟨w.heap.size + 1, 2, none⟩ (.string ls[0])).setCell ⟨w.heap.size + 1, 3, none⟩ (.slice none 0 0)).setCell ⟨w.heap.size + 1, 4, none⟩ (.slice (some ⟨wD.heap.size, 0, none⟩) 1 1)).cell? ⟨b', off' + 1, none⟩ = _ := (World.cell?_of_block (a := ⟨b', off' + 1, none⟩) (show ((((((wD.alloc (.cells #[.int .i64 (defVa ts[0]).kind, .int .i64 (defVa ts[0]).num, .string (defVa ts[0]).name, .slice T1 (defVa ts[0]).labels.length U1, .slice T2 (defVa ts[0]).args.length U2] 27)).setCell ⟨w.heap.size + 1, 0, none⟩ (.int .i64 4)).setCell ⟨w.heap.size + 1, 1, none⟩ (.int .i64 0)).setCell ⟨w.heap.size + 1, 2, none⟩ (.string ls[0])).setCell ⟨w.heap.size + 1, 3, none⟩ (.slice none 0 0)).setCell ⟨w.heap.size + 1, 4, none⟩ (.slice (some ⟨wD.heap.size, 0, none⟩) 1 1)).heap[b']? = (wD.alloc (.cells #[.int .i64 (defVa ts[0]).kind, .int .i64 (defVa ts[0]).num, .string (defVa ts[0]).name, .slice T1 (defVa ts[0]).labels.length U1, .slice T2 (defVa ts[0]).args.length U2] 27)).heap[b']? by have hq : b' ≠ w.heap.size + 1 := (by omega); rw [Below.heap_setCell _ _ _ _ hq, Below.heap_setCell _ _ _ _ hq, Below.heap_setCell _ _ _ _ hq, Below.heap_setCell _ _ _ _ hq, Below.heap_setCell _ _ _ _ hq])).trans n4; have s5 : ((((((wD.alloc (.cells #[.int .i64 (defVa ts[0]).kind, .int .i64 (defVa ts[0]).num, .string (defVa ts[0]).name, .slice T1 (defVa ts[0]).labels.length U1, .slice T2 (defVa ts[0]).args.length U2] 27)).setCell ⟨w.heap.size + 1, 0, none⟩ (.int .i64 4)).setCell ⟨w.heap.size + 1, 1, none⟩ (.int .i64 0)).setCell ⟨w.heap.size + 1, 2, none⟩ (.string ls[0])).setCell ⟨w.heap.size + 1, 3, none⟩ (.slice none 0 0)).setCell ⟨w.heap.size + 1, 4, none⟩ (.slice (some ⟨wD.heap.size, 0, none⟩) 1 1)).cell? ⟨b', off' + 2, none⟩ = _ := (World.cell?_of_block (a := ⟨b', off' + 2, none⟩) (show ((((((wD.alloc (.cells #[.int .i64 (defVa ts[0]).kind, .int .i64 (defVa ts[0]).num, .string (defVa ts[0]).name, .slice T1 (defVa ts[0]).labels.length U1, .slice T2 (defVa ts[0]).args.length U2] 27)).setCell ⟨w.heap.size + 1, 0, none⟩ (.int .i64 4)).setCell ⟨w.heap.size + 1, 1, none⟩ (.int .i64 0)).setCell ⟨w.heap.size + 1, 2, none⟩ (.string ls[0])).setCell ⟨w.heap.size + 1, 3, none⟩ (.slice none 0 0)).setCell ⟨w.heap.size + 1, 4, none⟩ (.slice (some ⟨wD.heap.size, 0, none⟩) 1 1)).heap[b']? = (wD.alloc (.cells #[.int .i64 (defVa ts[0]).kind, .int .i64 (defVa ts[0]).num, .string (defVa ts[0]).name, .slice T1 (defVa ts[0]).labels.length U1, .slice T2 (defVa ts[0]).args.length U2] 27)).heap[b']? by have hq : b' ≠ w.heap.size + 1 := (by omega); rw [Below.heap_setCell _ _ _ _ hq, Below.heap_setCell _ _ _ _ hq, Below.heap_setCell _ _ _ _ hq, Below.heap_setCell _ _ _ _ hq, Below.heap_setCell _ _ _ _ hq])).trans n5))
      have HBA := Lib.hid hbA
      have HBC := Lib.hid hbC
      have HB1 := Lib.hid hb1
      go_wp2
      refine bodyPost_ret (v := .agg #[.int .i64 4, .int .i64 0, .string ls[0], .slice none 0 0, .slice (some ⟨wD.heap.size, 0, none⟩) 1 1]) (by simp [results, Tryd.results40, go_sem, d0, d1, d2, d3, d4]) rfl ⟨_, rfl, ?_, ?_⟩
      · have hS : ((((((wD.alloc (.cells #[.int .i64 (defVa ts[0]).kind, .int .i64 (defVa ts[0]).num, .string (defVa ts[0]).name, .slice T1 (defVa ts[0]).labels.length U1, .slice T2 (defVa ts[0]).args.length U2] 27)).setCell ⟨w.heap.size + 1, 0, none⟩ (.int .i64 4)).setCell ⟨w.heap.size + 1, 1, none⟩ (.int .i64 0)).setCell ⟨w.heap.size + 1, 2, none⟩ (.string ls[0])).setCell ⟨w.heap.size + 1, 3, none⟩ (.slice none 0 0)).setCell ⟨w.heap.size + 1, 4, none⟩ (.slice (some ⟨wD.heap.size, 0, none⟩) 1 1)).heap.size = (wD.alloc (.cells #[.int .i64 (defVa ts[0]).kind, .int .i64 (defVa ts[0]).num, .string (defVa ts[0]).name, .slice T1 (defVa ts[0]).labels.length U1, .slice T2 (defVa ts[0]).args.length U2] 27)).heap.size := by simp [World.setCell]
        have hk' : ∀ q, q ≠ w.heap.size + 1 → ((((((wD.alloc (.cells #[.int .i64 (defVa ts[0]).kind, .int .i64 (defVa ts[0]).num, .string (defVa ts[0]).name, .slice T1 (defVa ts[0]).labels.length U1, .slice T2 (defVa ts[0]).args.length U2] 27)).setCell ⟨w.heap.size + 1, 0, none⟩ (.int .i64 4)).setCell ⟨w.heap.size + 1, 1, none⟩ (.int .i64 0)).setCell ⟨w.heap.size + 1, 2, none⟩ (.string ls[0])).setCell ⟨w.heap.size + 1, 3, none⟩ (.slice none 0 0)).setCell ⟨w.heap.size + 1, 4, none⟩ (.slice (some ⟨wD.heap.size, 0, none⟩) 1 1)).heap[q]? = (wD.alloc (.cells #[.int .i64 (defVa ts[0]).kind, .int .i64 (defVa ts[0]).num, .string (defVa ts[0]).name, .slice T1 (defVa ts[0]).labels.length U1, .slice T2 (defVa ts[0]).args.length U2] 27)).heap[q]? := fun q hq => by rw [Below.heap_setCell _ _ _ _ hq, Below.heap_setCell _ _ _ _ hq, Below.heap_setCell _ _ _ _ hq, Below.heap_setCell _ _ _ _ hq, Below.heap_setCell _ _ _ _ hq]
        have e1 : ls.headD ⟨#[]⟩ = ls[0] := by
          cases ls with
          | nil => simp at h0l
          | cons a r => rfl
        have e2 : defHead ts = [defVa ts[0]] := by
          cases ts with
          | nil => simp at h0t
          | cons a r => rw [defHead]; rfl
        rw [hS, defVa_4, e1, e2]
        have hsc := HBC.out.size
        have hs9 := HB1.out.size
        have hg := VGather.done (ts := [defVa ts[0]]) (A := some ⟨wD.heap.size, 0, none⟩) (c := 1) (vgather_one (base := wC.heap.size) (Nat.le_refl _) hs9 (HT1.out : VaIn wD (Span wC.heap.size wD.heap.size) _ _)) (by simp [maxLen])
        have hD2 := hg.keep (w' := ((((((wD.alloc (.cells #[.int .i64 (defVa ts[0]).kind, .int .i64 (defVa ts[0]).num, .string (defVa ts[0]).name, .slice T1 (defVa ts[0]).labels.length U1, .slice T2 (defVa ts[0]).args.length U2] 27)).setCell ⟨w.heap.size + 1, 0, none⟩ (.int .i64 4)).setCell ⟨w.heap.size + 1, 1, none⟩ (.int .i64 0)).setCell ⟨w.heap.size + 1, 2, none⟩ (.string ls[0])).setCell ⟨w.heap.size + 1, 3, none⟩ (.slice none 0 0)).setCell ⟨w.heap.size + 1, 4, none⟩ (.slice (some ⟨wD.heap.size, 0, none⟩) 1 1))) fun b hb' _ => hk' b (by have := hb'.1; omega)
        exact VaIn.of (t := .mk 4 0 ls[0] [] [defVa ts[0]]) (gl := 0) (S := Span w.heap.size (wD.alloc (.cells #[.int .i64 (defVa ts[0]).kind, .int .i64 (defVa ts[0]).num, .string (defVa ts[0]).name, .slice T1 (defVa ts[0]).labels.length U1, .slice T2 (defVa ts[0]).args.length U2] 27)).heap.size) (HN.out 0 h0l) (Nat.zero_le _) (fun i h => absurd h (by simp [Va.labels])) (.inl rfl) hD2 fun b hb' => ⟨⟨by have := hb'.1; omega, hb'.2⟩, by have := hb'.1; omega⟩
      · exact (((((hb2'.trans (HBA.out.mono hb2'.size)).setCell (p := ⟨w.heap.size + 1, 0, none⟩) (Nat.le_succ _) _).setCell (p := ⟨w.heap.size + 1, 1, none⟩) (Nat.le_succ _) _).setCell (p := ⟨w.heap.size + 1, 2, none⟩) (Nat.le_succ _) _).setCell (p := ⟨w.heap.size + 1, 3, none⟩) (Nat.le_succ _) _).setCell (p := ⟨w.heap.size + 1, 4, none⟩) (Nat.le_succ _) _
    · skip
      have haintForm := td_listForm_intForm
      have haboolForm := td_listForm_boolForm
      have harecForm := td_listForm_recForm
      have hasumForm := td_listForm_sumForm
      have halistForm := td_listForm_listForm
      obtain ⟨L2, lc2, A2, ac2, hv2, _⟩ := ht1.open
      simp only [Value.agg.injEq, Array.mk.injEq, List.cons.injEq, and_true] at hv2
      obtain ⟨rfl, rfl, rfl⟩ := hv2
      have hb2 := (Below.refl w1.heap.size w1).alloc (Nat.le_refl _) (.cells #[.int .i64 t1.kind, .slice L2 t1.labels.length lc2, .slice A2 t1.args.length ac2] 115)
      have r2 := r1.below hb2 r1.lt
      have hb2' := hb1'.trans (hb2.mono hb1'.size)
      have d0 : (w1.alloc (.cells #[.int .i64 t1.kind, .slice L2 t1.labels.length lc2, .slice A2 t1.args.length ac2] 115)).cell? ⟨w.heap.size + 1, 0, none⟩ = some (.int .i64 0) := r2.cell 0
      have e0 : (w1.alloc (.cells #[.int .i64 t1.kind, .slice L2 t1.labels.length lc2, .slice A2 t1.args.length ac2] 115)).frozen? ⟨w.heap.size + 1, 0, none⟩ = false := r2.free 0
      have d1 : (w1.alloc (.cells #[.int .i64 t1.kind, .slice L2 t1.labels.length lc2, .slice A2 t1.args.length ac2] 115)).cell? ⟨w.heap.size + 1, 1, none⟩ = some (.int .i64 0) := r2.cell 1
      have e1 : (w1.alloc (.cells #[.int .i64 t1.kind, .slice L2 t1.labels.length lc2, .slice A2 t1.args.length ac2] 115)).frozen? ⟨w.heap.size + 1, 1, none⟩ = false := r2.free 1
      have d2 : (w1.alloc (.cells #[.int .i64 t1.kind, .slice L2 t1.labels.length lc2, .slice A2 t1.args.length ac2] 115)).cell? ⟨w.heap.size + 1, 2, none⟩ = some (.string ⟨#[]⟩) := r2.cell 2
      have e2 : (w1.alloc (.cells #[.int .i64 t1.kind, .slice L2 t1.labels.length lc2, .slice A2 t1.args.length ac2] 115)).frozen? ⟨w.heap.size + 1, 2, none⟩ = false := r2.free 2
      have d3 : (w1.alloc (.cells #[.int .i64 t1.kind, .slice L2 t1.labels.length lc2, .slice A2 t1.args.length ac2] 115)).cell? ⟨w.heap.size + 1, 3, none⟩ = some (.slice none 0 0) := r2.cell 3
      have e3 : (w1.alloc (.cells #[.int .i64 t1.kind, .slice L2 t1.labels.length lc2, .slice A2 t1.args.length ac2] 115)).frozen? ⟨w.heap.size + 1, 3, none⟩ = false := r2.free 3
      have d4 : (w1.alloc (.cells #[.int .i64 t1.kind, .slice L2 t1.labels.length lc2, .slice A2 t1.args.length ac2] 115)).cell? ⟨w.heap.size + 1, 4, none⟩ = some (.slice none 0 0) := r2.cell 4
      have e4 : (w1.alloc (.cells #[.int .i64 t1.kind, .slice L2 t1.labels.length lc2, .slice A2 t1.args.length ac2] 115)).frozen? ⟨w.heap.size + 1, 4, none⟩ = false := r2.free 4
      clear r1 r2 ht1
      go_wp2
      refine bodyPost_ret (v := .agg #[.int .i64 5, .int .i64 0, .string ⟨#[]⟩, .slice none 0 0, .slice none 0 0]) (by simp [results, Tryd.results40, go_sem, d0, d1, d2, d3, d4]) rfl ⟨_, rfl, ?_, ?_⟩
      · rw [defVa_5]
        exact VaIn.leaf _ _ _ _ _ _ _ _ _ (by simp [ByteArray.size])
      · exact ((((hb2'.setCell (p := ⟨w.heap.size + 1, 0, none⟩) (Nat.le_succ _) _).setCell (p := ⟨w.heap.size + 1, 1, none⟩) (Nat.le_succ _) _).setCell (p := ⟨w.heap.size + 1, 2, none⟩) (Nat.le_succ _) _).setCell (p := ⟨w.heap.size + 1, 3, none⟩) (Nat.le_succ _) _).setCell (p := ⟨w.heap.size + 1, 4, none⟩) (Nat.le_succ _) _

theorem implDef_any (t : Ty) : DefOne 40 t := by
  induction t using Ty.ind with
  | h k ls ts ih => exact implDef_of k ls ts ih

set_option maxHeartbeats 1000000 in
theorem implDefault_any (t : Ty) (v : Value) (w : World) (hv : OwnT w v t) (hsz : szTy t ≤ 1048576) : Calls Tryd.prog 11 #[v] w (NewVa w (defB t)) := by
  have hv0 := hv
  have HV := Lib.hid (fun V W h => implValid_any t V W h hsz)
  have HD := Lib.hid (fun V W h hf => implDef_any t V W h hf hsz)
  obtain ⟨L, lc, A, ac, rfl, _⟩ := hv.open
  obtain ⟨hb0, p0, r0, hs0⟩ := boxes2 w 30 27 #[.int .i64 t.kind, .slice L t.labels.length lc, .slice A t.args.length ac] #[.int .i64 0, .int .i64 0, .string ⟨#[]⟩, .slice none 0 0, .slice none 0 0]
  have hv1 := hv0.up hb0
  clear hv hv0
  go_enter Tryd.func11, Tryd.ntmps11
  go_wp2_with fail
  generalize (w.alloc (.cells #[.int .i64 t.kind, .slice L t.labels.length lc, .slice A t.args.length ac] 30)).alloc (.cells #[.int .i64 0, .int .i64 0, .string ⟨#[]⟩, .slice none 0 0, .slice none 0 0] 27) = w0 at *
  refine (HV.out _ w0 hv1).mono ?_
  rintro e w1 ⟨rfl, hb1⟩
  have hb1' := hb0.trans (hb1.mono hb0.size)
  have r1 := r0.below hb1 r0.lt
  cases hvb : validB t
  · have hr := Lib.hid (show defB t = .mk 0 0 ⟨#[]⟩ [] [] by unfold defB; rw [hvb]; rfl)
    have d0 : w1.cell? ⟨w.heap.size + 1, 0, none⟩ = some (.int .i64 0) := r1.cell 0
    have e0 : w1.frozen? ⟨w.heap.size + 1, 0, none⟩ = false := r1.free 0
    have d1 : w1.cell? ⟨w.heap.size + 1, 1, none⟩ = some (.int .i64 0) := r1.cell 1
    have e1 : w1.frozen? ⟨w.heap.size + 1, 1, none⟩ = false := r1.free 1
    have d2 : w1.cell? ⟨w.heap.size + 1, 2, none⟩ = some (.string ⟨#[]⟩) := r1.cell 2
    have e2 : w1.frozen? ⟨w.heap.size + 1, 2, none⟩ = false := r1.free 2
    have d3 : w1.cell? ⟨w.heap.size + 1, 3, none⟩ = some (.slice none 0 0) := r1.cell 3
    have e3 : w1.frozen? ⟨w.heap.size + 1, 3, none⟩ = false := r1.free 3
    have d4 : w1.cell? ⟨w.heap.size + 1, 4, none⟩ = some (.slice none 0 0) := r1.cell 4
    have e4 : w1.frozen? ⟨w.heap.size + 1, 4, none⟩ = false := r1.free 4
    clear p0 r0 r1 hs0 hvb
    go_wp2
    refine bodyPost_ret (v := .agg #[.int .i64 0, .int .i64 0, .string ⟨#[]⟩, .slice none 0 0, .slice none 0 0]) (by simp [results, Tryd.results11, go_sem, d0, d1, d2, d3, d4]) rfl ⟨_, rfl, ?_, ?_⟩
    · rw [hr.out]
      exact VaIn.leaf _ _ _ _ _ _ _ _ _ (by simp [ByteArray.size])
    · exact ((((hb1'.setCell (by simp) _).setCell (by simp) _).setCell (by simp) _).setCell (by simp) _).setCell (by simp) _
  · have hr := Lib.hid (show defB t = defVa t by unfold defB; rw [hvb]; rfl)
    have hf : formTy t = true := by
      unfold validB at hvb
      simp only [Bool.and_eq_true] at hvb
      exact hvb.2
    have p1 := p0.below hb1 p0.lt
    have c0 : w1.cell? ⟨w.heap.size, 0, none⟩ = some (.int .i64 t.kind) := p1.cell 0
    have c1 : w1.cell? ⟨w.heap.size, 1, none⟩ = some (.slice L t.labels.length lc) := p1.cell 1
    have c2 : w1.cell? ⟨w.heap.size, 2, none⟩ = some (.slice A t.args.length ac) := p1.cell 2
    have HC := Lib.hid (HD.out _ w1 (hv1.up hb1).here hf)
    have HZ := Lib.hid hs0
    have hs1 := hb1.size
    clear p0 r0 p1 hv1 hvb hf hs0
    go_wp2_with fail
    refine HC.out.mono ?_
    rintro e w2 ⟨v2, rfl, ht2, hb2⟩
    have HT2 := Lib.hid ht2
    obtain ⟨T1, U1, T2, U2, _, rfl, _⟩ := ht2.open
    have hb2' := hb1'.trans (hb2.mono hb1'.size)
    have r2 := r1.below hb2 r1.lt
    have d0 : w2.cell? ⟨w.heap.size + 1, 0, none⟩ = some (.int .i64 0) := r2.cell 0
    have e0 : w2.frozen? ⟨w.heap.size + 1, 0, none⟩ = false := r2.free 0
    have d1 : w2.cell? ⟨w.heap.size + 1, 1, none⟩ = some (.int .i64 0) := r2.cell 1
    have e1 : w2.frozen? ⟨w.heap.size + 1, 1, none⟩ = false := r2.free 1
    have d2 : w2.cell? ⟨w.heap.size + 1, 2, none⟩ = some (.string ⟨#[]⟩) := r2.cell 2
    have e2 : w2.frozen? ⟨w.heap.size + 1, 2, none⟩ = false := r2.free 2
    have d3 : w2.cell? ⟨w.heap.size + 1, 3, none⟩ = some (.slice none 0 0) := r2.cell 3
    have e3 : w2.frozen? ⟨w.heap.size + 1, 3, none⟩ = false := r2.free 3
    have d4 : w2.cell? ⟨w.heap.size + 1, 4, none⟩ = some (.slice none 0 0) := r2.cell 4
    have e4 : w2.frozen? ⟨w.heap.size + 1, 4, none⟩ = false := r2.free 4
    clear r1 r2 ht2 c0 c1 c2
    go_wp2
    refine bodyPost_ret (v := .agg #[.int .i64 (defVa t).kind, .int .i64 (defVa t).num, .string (defVa t).name, .slice T1 (defVa t).labels.length U1, .slice T2 (defVa t).args.length U2]) (by simp [results, Tryd.results11, go_sem, d0, d1, d2, d3, d4]) rfl ⟨_, rfl, ?_, ?_⟩
    · have hS : (((((w2.setCell ⟨w.heap.size + 1, 0, none⟩ (.int .i64 (defVa t).kind)).setCell ⟨w.heap.size + 1, 1, none⟩ (.int .i64 (defVa t).num)).setCell ⟨w.heap.size + 1, 2, none⟩ (.string (defVa t).name)).setCell ⟨w.heap.size + 1, 3, none⟩ (.slice T1 (defVa t).labels.length U1)).setCell ⟨w.heap.size + 1, 4, none⟩ (.slice T2 (defVa t).args.length U2)).heap.size = w2.heap.size := by simp [World.setCell]
      rw [hS, hr.out]
      have hzz := HZ.out
      refine (HT2.out.keep fun b hb' _ => ?_).wide fun b hb' => ⟨by have := hb'.1; omega, hb'.2⟩
      have hq : b ≠ w.heap.size + 1 := by have := hb'.1; omega
      rw [Below.heap_setCell _ _ _ _ hq, Below.heap_setCell _ _ _ _ hq, Below.heap_setCell _ _ _ _ hq, Below.heap_setCell _ _ _ _ hq, Below.heap_setCell _ _ _ _ hq]
    · exact ((((hb2'.setCell (by simp) _).setCell (by simp) _).setCell (by simp) _).setCell (by simp) _).setCell (by simp) _

end Go.Proofs.YtlmbnefoobameaaDoor
end

section
namespace Go.Proofs.YtlmbnefoobameaaDoor
set_option maxRecDepth 100000
open Go.RowKit

/-- The table of the forms: six words for each kind. -/
def formCells : List Value := [.int .i64 0, .int .i64 0, .bool false, .bool false, .int .i64 0, .int .i64 0, .int .i64 (-9223372036854775808), .int .i64 9223372036854775807, .bool false, .bool false, .int .i64 0, .int .i64 0, .int .i64 0, .int .i64 1, .bool false, .bool false, .int .i64 0, .int .i64 0, .int .i64 0, .int .i64 0, .bool false, .bool true, .int .i64 1, .int .i64 4, .int .i64 0, .int .i64 0, .bool true, .bool false, .int .i64 1, .int .i64 1, .int .i64 0, .int .i64 0, .bool false, .bool false, .int .i64 0, .int .i64 9223372036854775807]
/-- The package variable holds the table. -/
def FormsAt (w : World) : Prop := 0 < w.heap.size ∧ ∀ i, i < 36 → w.cell? ⟨0, i, none⟩ = formCells[i]?
theorem FormsAt.below {w w' : World} (h : FormsAt w) (hb : Below w.heap.size w w') : FormsAt w' := ⟨Nat.lt_of_lt_of_le h.1 hb.size, fun i hi => (hb.cell (p := ⟨0, i, none⟩) h.1).trans (h.2 i hi)⟩

def textsOk (b1 b2 : Bool) (nm : ByteArray) (ls : List ByteArray) : Bool := if b1 = decide (nm.size ≠ 0) ∧ b2 = decide (ls.length ≠ 0) then (!b1 || isNameB nm) && (!b2 || labelsB ls) else false

set_option maxHeartbeats 4000000 in
theorem allowsTexts_any (b1 b2 : Bool) (a b c d : Int) (k0 n0 : Int) (nm : ByteArray) (ls : List ByteArray) (m : Nat) (L A : Option Addr) (lc ac : Nat) (w : World) (hl : StrsAt w w.heap.size L ls) (hnm : nm.size ≤ maxLen) (hn : ls.length < maxLen) (hz : ∀ i, (h : i < ls.length) → ls[i].size ≤ maxLen) :
    Calls Tryd.prog 125 #[.agg #[.int .i64 a, .int .i64 b, .bool b1, .bool b2, .int .i64 c, .int .i64 d], .agg #[.int .i64 k0, .int .i64 n0, .string nm, .slice L ls.length lc, .slice A m ac]] w (BoolIs (textsOk b1 b2 nm ls) w) := by
  obtain ⟨hb0, p0, q0, hs0⟩ := boxes2 w 157 27 #[.int .i64 a, .int .i64 b, .bool b1, .bool b2, .int .i64 c, .int .i64 d] #[.int .i64 k0, .int .i64 n0, .string nm, .slice L ls.length lc, .slice A m ac]
  have HL := Lib.hid (fun W (h : Below w.heap.size w W) => areLabels_any L lc ls W (hl.up' h) hn hz)
  have HI := Lib.hid (fun W => implIsName_any nm W hnm)
  clear hl hz hs0
  have hu : textsOk b1 b2 nm ls = textsOk b1 b2 nm ls := rfl
  unfold textsOk at hu
  by_cases e1 : nm.size = 0
  · have hnil : nm = ⟨#[]⟩ := by
      obtain ⟨⟨l⟩⟩ := nm
      have : l = [] := List.length_eq_zero_iff.1 e1
      rw [this]
    subst hnil
    by_cases e2 : ls.length = 0
    · have j2 : decide (0 < ls.length) = false := by rw [decide_eq_false_iff_not]; omega
      cases b1
      · cases b2
        · have hr := Lib.hid (show textsOk false false ⟨#[]⟩ ls = true by unfold textsOk; simp [e2, ByteArray.size])
          clear hu e1 e2
          go_enter Tryd.func125, Tryd.ntmps125
          go_wp2
          go_ret
          exact ⟨by rw [hr.out]; rfl, hb0⟩
        · have hr := Lib.hid (show textsOk false true ⟨#[]⟩ ls = false by unfold textsOk; simp [e2, ByteArray.size])
          clear hu e1 e2
          go_enter Tryd.func125, Tryd.ntmps125
          go_wp2
          go_ret
          exact ⟨by rw [hr.out]; rfl, hb0⟩
      · have hr := Lib.hid (show textsOk true b2 ⟨#[]⟩ ls = false by unfold textsOk; simp [ByteArray.size])
        clear hu e1 e2
        go_enter Tryd.func125, Tryd.ntmps125
        go_wp2
        go_ret
        exact ⟨by rw [hr.out]; rfl, hb0⟩
    · have j2 : decide (0 < ls.length) = true := by rw [decide_eq_true_eq]; omega
      cases b1
      · cases b2
        · have hr := Lib.hid (show textsOk false false ⟨#[]⟩ ls = false by unfold textsOk; simp [e2, ByteArray.size])
          clear hu e1 e2
          go_enter Tryd.func125, Tryd.ntmps125
          go_wp2
          go_ret
          exact ⟨by rw [hr.out]; rfl, hb0⟩
        · have hr := Lib.hid (show textsOk false true ⟨#[]⟩ ls = labelsB ls by unfold textsOk; simp [e2, ByteArray.size])
          clear hu e1 e2
          go_enter Tryd.func125, Tryd.ntmps125
          go_wp2_with fail
          refine (HL.out _ hb0).mono ?_
          rintro e w1 ⟨rfl, hb1⟩
          go_wp2
          go_ret
          exact ⟨by rw [hr.out]; rfl, hb0.trans (hb1.mono hb0.size)⟩
      · have hr := Lib.hid (show textsOk true b2 ⟨#[]⟩ ls = false by unfold textsOk; simp [ByteArray.size])
        clear hu e1 e2
        go_enter Tryd.func125, Tryd.ntmps125
        go_wp2
        go_ret
        exact ⟨by rw [hr.out]; rfl, hb0⟩
  · have hq : (nm.toList == []) = false := by
      rw [ByteArray.toList_eq]
      obtain ⟨⟨l⟩⟩ := nm
      cases l with
      | nil => exact absurd rfl e1
      | cons x r => rfl
    have hq2 : (nm.toList != []) = true := by rw [bne, hq]; rfl
    by_cases e2 : ls.length = 0
    · have j2 : decide (0 < ls.length) = false := by rw [decide_eq_false_iff_not]; omega
      cases b1
      · have hr := Lib.hid (show textsOk false b2 nm ls = false by unfold textsOk; simp [e1])
        clear hu e1 e2
        go_enter Tryd.func125, Tryd.ntmps125
        go_wp2
        go_ret
        exact ⟨by rw [hr.out]; rfl, hb0⟩
      · cases b2
        · have hr := Lib.hid (show textsOk true false nm ls = isNameB nm by unfold textsOk; simp [e1, e2])
          clear hu e1 e2
          go_enter Tryd.func125, Tryd.ntmps125
          go_wp2_with fail
          refine (HI.out _).mono ?_
          rintro e w1 ⟨rfl, hb1⟩
          have p1 := p0.below hb1 p0.lt
          have c3 : w1.cell? ⟨w.heap.size, 3, none⟩ = some (.bool false) := p1.cell 3
          cases hnb : isNameB nm
          · rw [hnb] at hr
            clear hnb
            go_wp2
            go_ret
            exact ⟨by rw [hr.out]; rfl, hb0.trans (hb1.mono hb0.size)⟩
          · rw [hnb] at hr
            clear hnb
            go_wp2
            go_ret
            exact ⟨by rw [hr.out]; rfl, hb0.trans (hb1.mono hb0.size)⟩
        · have hr := Lib.hid (show textsOk true true nm ls = false by unfold textsOk; simp [e2])
          clear hu e1 e2
          go_enter Tryd.func125, Tryd.ntmps125
          go_wp2
          go_ret
          exact ⟨by rw [hr.out]; rfl, hb0⟩
    · have j2 : decide (0 < ls.length) = true := by rw [decide_eq_true_eq]; omega
      cases b1
      · have hr := Lib.hid (show textsOk false b2 nm ls = false by unfold textsOk; simp [e1])
        clear hu e1 e2
        go_enter Tryd.func125, Tryd.ntmps125
        go_wp2
        go_ret
        exact ⟨by rw [hr.out]; rfl, hb0⟩
      · cases b2
        · have hr := Lib.hid (show textsOk true false nm ls = false by unfold textsOk; simp [e2])
          clear hu e1 e2
          go_enter Tryd.func125, Tryd.ntmps125
          go_wp2
          go_ret
          exact ⟨by rw [hr.out]; rfl, hb0⟩
        · have hr := Lib.hid (show textsOk true true nm ls = (isNameB nm && labelsB ls) by unfold textsOk; simp [e1, e2])
          clear hu e1 e2
          go_enter Tryd.func125, Tryd.ntmps125
          go_wp2_with fail
          refine (HI.out _).mono ?_
          rintro e w1 ⟨rfl, hb1⟩
          have hb1' := hb0.trans (hb1.mono hb0.size)
          have p1 := p0.below hb1 p0.lt
          have q1 := q0.below hb1 q0.lt
          have c3 : w1.cell? ⟨w.heap.size, 3, none⟩ = some (.bool true) := p1.cell 3
          have d3 : w1.cell? ⟨w.heap.size + 1, 3, none⟩ = some (.slice L ls.length lc) := q1.cell 3
          cases hnb : isNameB nm
          · rw [hnb] at hr
            clear hnb
            go_wp2
            go_ret
            exact ⟨by rw [hr.out]; rfl, hb1'⟩
          · rw [hnb] at hr
            clear hnb
            go_wp2_with fail
            refine (HL.out _ hb1').mono ?_
            rintro e w2 ⟨rfl, hb2⟩
            go_wp2
            go_ret
            exact ⟨by rw [hr.out]; rfl, hb1'.trans (hb2.mono hb1'.size)⟩

def argsOk (b2 : Bool) (c d : Int) (n m : Nat) : Bool := (!b2 || decide (m = n)) && (decide (c ≤ (m : Int)) && decide ((m : Int) ≤ d))

set_option maxHeartbeats 4000000 in
theorem allowsArgs_any (b1 b2 : Bool) (a b c d : Int) (v0 v1 v2 : Value) (n m : Nat) (L A : Option Addr) (lc ac : Nat) (w : World) :
    Calls Tryd.prog 126 #[.agg #[.int .i64 a, .int .i64 b, .bool b1, .bool b2, .int .i64 c, .int .i64 d], .agg #[v0, v1, v2, .slice L n lc, .slice A m ac]] w (BoolIs (argsOk b2 c d n m) w) := by
  obtain ⟨hb0, p0, q0, hs0⟩ := boxes2 w 157 27 #[.int .i64 a, .int .i64 b, .bool b1, .bool b2, .int .i64 c, .int .i64 d] #[v0, v1, v2, .slice L n lc, .slice A m ac]
  clear hs0
  by_cases h1 : c ≤ (m : Int)
  · by_cases h2 : (m : Int) ≤ d
    · cases b2
      · have hr := Lib.hid (show argsOk false c d n m = true by unfold argsOk; simp [h1, h2])
        go_enter Tryd.func126, Tryd.ntmps126
        go_wp2
        go_ret
        exact ⟨by rw [hr.out]; rfl, hb0⟩
      · by_cases h3 : m = n
        · have i3 : ((m : Int) != (n : Int)) = false := by rw [bne_eq_false_iff_eq]; omega
          have hr := Lib.hid (show argsOk true c d n m = true by unfold argsOk; simp [h3]; omega)
          clear h3
          go_enter Tryd.func126, Tryd.ntmps126
          go_wp2
          go_ret
          exact ⟨by rw [hr.out]; rfl, hb0⟩
        · have i3 : ((m : Int) != (n : Int)) = true := by rw [bne_iff_ne]; omega
          have hr := Lib.hid (show argsOk true c d n m = false by unfold argsOk; simp [h3])
          clear h3
          go_enter Tryd.func126, Tryd.ntmps126
          go_wp2
          go_ret
          exact ⟨by rw [hr.out]; rfl, hb0⟩
    · cases b2
      · have hr := Lib.hid (show argsOk false c d n m = false by unfold argsOk; simp [h2])
        go_enter Tryd.func126, Tryd.ntmps126
        go_wp2
        go_ret
        exact ⟨by rw [hr.out]; rfl, hb0⟩
      · by_cases h3 : m = n
        · have i3 : ((m : Int) != (n : Int)) = false := by rw [bne_eq_false_iff_eq]; omega
          have hr := Lib.hid (show argsOk true c d n m = false by unfold argsOk; simp [h2])
          clear h3
          go_enter Tryd.func126, Tryd.ntmps126
          go_wp2
          go_ret
          exact ⟨by rw [hr.out]; rfl, hb0⟩
        · have i3 : ((m : Int) != (n : Int)) = true := by rw [bne_iff_ne]; omega
          have hr := Lib.hid (show argsOk true c d n m = false by unfold argsOk; simp [h3])
          clear h3
          go_enter Tryd.func126, Tryd.ntmps126
          go_wp2
          go_ret
          exact ⟨by rw [hr.out]; rfl, hb0⟩
  · cases b2
    · have hr := Lib.hid (show argsOk false c d n m = false by unfold argsOk; simp [h1])
      go_enter Tryd.func126, Tryd.ntmps126
      go_wp2
      go_ret
      exact ⟨by rw [hr.out]; rfl, hb0⟩
    · by_cases h3 : m = n
      · have i3 : ((m : Int) != (n : Int)) = false := by rw [bne_eq_false_iff_eq]; omega
        have hr := Lib.hid (show argsOk true c d n m = false by unfold argsOk; simp [h1])
        clear h3
        go_enter Tryd.func126, Tryd.ntmps126
        go_wp2
        go_ret
        exact ⟨by rw [hr.out]; rfl, hb0⟩
      · have i3 : ((m : Int) != (n : Int)) = true := by rw [bne_iff_ne]; omega
        have hr := Lib.hid (show argsOk true c d n m = false by unfold argsOk; simp [h3])
        clear h3
        go_enter Tryd.func126, Tryd.ntmps126
        go_wp2
        go_ret
        exact ⟨by rw [hr.out]; rfl, hb0⟩

/-- The forms say what a node of the kind may have. -/
theorem node_by_form (k n : Int) (nm : ByteArray) (ls : List ByteArray) (m : Nat) (hn : -9223372036854775808 ≤ n ∧ n ≤ 9223372036854775807) (hm : m ≤ maxLen) (a b c d : Int) (b1 b2 : Bool) (hk : (k = 1 ∧ a = -9223372036854775808 ∧ b = 9223372036854775807 ∧ b1 = false ∧ b2 = false ∧ c = 0 ∧ d = 0) ∨ (k = 2 ∧ a = 0 ∧ b = 1 ∧ b1 = false ∧ b2 = false ∧ c = 0 ∧ d = 0) ∨ (k = 3 ∧ a = 0 ∧ b = 0 ∧ b1 = false ∧ b2 = true ∧ c = 1 ∧ d = 4) ∨ (k = 4 ∧ a = 0 ∧ b = 0 ∧ b1 = true ∧ b2 = false ∧ c = 1 ∧ d = 1) ∨ (k = 5 ∧ a = 0 ∧ b = 0 ∧ b1 = false ∧ b2 = false ∧ c = 0 ∧ d = 9223372036854775807)) :
    nodeVB k n nm ls m = (decide (a ≤ n) && decide (n ≤ b) && textsOk b1 b2 nm ls && argsOk b2 c d ls.length m) := by
  unfold maxLen at hm
  have hlab : labelsB ls = true → 1 ≤ ls.length ∧ ls.length ≤ 4 := fun h => by
    unfold labelsB at h
    simp only [Bool.and_eq_true, decide_eq_true_eq] at h
    exact h.1.2
  have hnam := isNameB_size nm
  have hN1 : decide (nm.size ≠ 0) = !decide (nm.size = 0) := by by_cases e : nm.size = 0 <;> simp [e]
  have hN2 : decide (ls.length ≠ 0) = !decide (ls.length = 0) := by by_cases e : ls.length = 0 <;> simp [e]
  rcases hk with ⟨rfl, rfl, rfl, rfl, rfl, rfl, rfl⟩ | ⟨rfl, rfl, rfl, rfl, rfl, rfl, rfl⟩ | ⟨rfl, rfl, rfl, rfl, rfl, rfl, rfl⟩ | ⟨rfl, rfl, rfl, rfl, rfl, rfl, rfl⟩ | ⟨rfl, rfl, rfl, rfl, rfl, rfl, rfl⟩
  · by_cases e1 : nm.size = 0 <;> by_cases e2 : ls.length = 0 <;> by_cases e3 : m = 0
    all_goals simp [nodeVB, textsOk, argsOk, e1, e2, e3, hn.1, hn.2]
  · by_cases e1 : nm.size = 0 <;> by_cases e2 : ls.length = 0 <;> by_cases e3 : m = 0 <;> by_cases e4 : 0 ≤ n <;> by_cases e5 : n ≤ 1
    all_goals simp [nodeVB, textsOk, argsOk, e1, e2, e3, e4, e5]
  · have e0 : (n = 0) ↔ (0 ≤ n ∧ n ≤ 0) := by omega
    cases e6 : labelsB ls
    · simp [nodeVB, textsOk, e6]
    · obtain ⟨l1, l2⟩ := hlab e6
      have l0 : ls.length ≠ 0 := by omega
      have l3 : ls ≠ [] := fun e => l0 (by rw [e]; rfl)
      by_cases e2 : m = ls.length
      · subst e2
        by_cases e1 : nm.size = 0 <;> by_cases e4 : 0 ≤ n <;> by_cases e5 : n ≤ 0
        all_goals simp [nodeVB, textsOk, argsOk, e0, e1, e4, e5, e6, l3]
        all_goals omega
      · simp [nodeVB, argsOk, e2]
  · have e0 : (n = 0) ↔ (0 ≤ n ∧ n ≤ 0) := by omega
    have e7 : (m = 1) ↔ (1 ≤ m ∧ m ≤ 1) := by omega
    by_cases e1 : nm.size = 0 <;> by_cases e2 : ls.length = 0 <;> by_cases e3 : 1 ≤ m <;> by_cases e8 : m ≤ 1 <;> by_cases e4 : 0 ≤ n <;> by_cases e5 : n ≤ 0 <;> cases e6 : isNameB nm
    all_goals simp [nodeVB, textsOk, argsOk, e0, e1, e2, e3, e4, e5, e6, e7, e8]
    all_goals (have := hnam e6; omega)
  · have e0 : (n = 0) ↔ (0 ≤ n ∧ n ≤ 0) := by omega
    by_cases e1 : nm.size = 0 <;> by_cases e2 : ls.length = 0 <;> by_cases e4 : 0 ≤ n <;> by_cases e5 : n ≤ 0
    all_goals simp [nodeVB, textsOk, argsOk, e0, e1, e2, e4, e5]
    all_goals omega

set_option maxHeartbeats 4000000 in
theorem hasValueForm_any (t : Va) (v : Value) (w : World) (hv : VaAt w w.heap.size v t) (hF : FormsAt w) (hnum : -9223372036854775808 ≤ t.num ∧ t.num ≤ 9223372036854775807) (hsz : szVa t ≤ 1048576) :
    Calls Tryd.prog 86 #[v] w (BoolIs (nodeVB t.kind t.num t.name t.labels t.args.length) w) := by
  have hse := szVa_eq t
  obtain ⟨L, lc, A, ac, rfl, hnm, hn, hz, hl, ha⟩ := hv.open
  have hm := ha.1
  have hnl : t.labels.length < maxLen := by unfold maxLen; omega
  cases t with
  | mk k0 n0 nm ls ts =>
  simp only [Va.kind, Va.num, Va.name, Va.labels, Va.args] at *
  obtain ⟨hb0, p0, hs0⟩ := boxes1 w 27 #[.int .i64 k0, .int .i64 n0, .string nm, .slice L ls.length lc, .slice A ts.length ac]
  have HFA := Lib.hid hF
  have HLS := Lib.hid hl
  have HZ := Lib.hid hz
  clear hv ha hl hz hse hs0
  by_cases hr15 : 1 ≤ k0 ∧ k0 ≤ 5
  · have hlo : ¬ k0 < 1 := by omega
    have hhi : ¬ k0 > 5 := by omega
    have hk : k0 = 1 ∨ k0 = 2 ∨ k0 = 3 ∨ k0 = 4 ∨ k0 = 5 := by omega
    clear hr15
    rcases hk with rfl | rfl | rfl | rfl | rfl
    · clear p0
      obtain ⟨hb2, p2, q2, hs2⟩ := boxes2 w 27 157 #[.int .i64 1, .int .i64 n0, .string nm, .slice L ls.length lc, .slice A ts.length ac] #[.int .i64 (-9223372036854775808), .int .i64 9223372036854775807, .bool false, .bool false, .int .i64 0, .int .i64 0]
      have hnb := node_by_form 1 n0 nm ls ts.length hnum hm (-9223372036854775808) 9223372036854775807 0 0 false false (by simp)
      have hFw := HFA.out.below hb0
      have f0 : (w.alloc (.cells #[.int .i64 1, .int .i64 n0, .string nm, .slice L ls.length lc, .slice A ts.length ac] 27)).cell? ⟨0, 6, none⟩ = some (.int .i64 (-9223372036854775808)) := hFw.2 6 (by omega)
      have f1 : (w.alloc (.cells #[.int .i64 1, .int .i64 n0, .string nm, .slice L ls.length lc, .slice A ts.length ac] 27)).cell? ⟨0, 7, none⟩ = some (.int .i64 9223372036854775807) := hFw.2 7 (by omega)
      have f2 : (w.alloc (.cells #[.int .i64 1, .int .i64 n0, .string nm, .slice L ls.length lc, .slice A ts.length ac] 27)).cell? ⟨0, 8, none⟩ = some (.bool false) := hFw.2 8 (by omega)
      have f3 : (w.alloc (.cells #[.int .i64 1, .int .i64 n0, .string nm, .slice L ls.length lc, .slice A ts.length ac] 27)).cell? ⟨0, 9, none⟩ = some (.bool false) := hFw.2 9 (by omega)
      have f4 : (w.alloc (.cells #[.int .i64 1, .int .i64 n0, .string nm, .slice L ls.length lc, .slice A ts.length ac] 27)).cell? ⟨0, 10, none⟩ = some (.int .i64 0) := hFw.2 10 (by omega)
      have f5 : (w.alloc (.cells #[.int .i64 1, .int .i64 n0, .string nm, .slice L ls.length lc, .slice A ts.length ac] 27)).cell? ⟨0, 11, none⟩ = some (.int .i64 0) := hFw.2 11 (by omega)
      have HNB := Lib.hid hnb
      have HTX := Lib.hid (allowsTexts_any false false (-9223372036854775808) 9223372036854775807 0 0 1 n0 nm ls ts.length L A lc ac _ (HLS.out.up' hb2) hnm hnl HZ.out)
      clear hnb hFw hs2
      by_cases g1 : (-9223372036854775808) ≤ n0
      · by_cases g2 : n0 ≤ 9223372036854775807
        · have hr := Lib.hid (show nodeVB 1 n0 nm ls ts.length = (textsOk false false nm ls && argsOk false 0 0 ls.length ts.length) by rw [HNB.out]; simp only [decide_eq_true g1, decide_eq_true g2, Bool.true_and])
          clear HNB
          go_enter Tryd.func86, Tryd.ntmps86
          go_wp2_with fail
          clear f0 f1 f2 f3 f4 f5
          generalize (w.alloc (.cells #[.int .i64 1, .int .i64 n0, .string nm, .slice L ls.length lc, .slice A ts.length ac] 27)).alloc (.cells #[.int .i64 (-9223372036854775808), .int .i64 9223372036854775807, .bool false, .bool false, .int .i64 0, .int .i64 0] 157) = w0 at *
          refine HTX.out.mono ?_
          rintro e w1 ⟨rfl, hb1⟩
          have hb1' := hb2.trans (hb1.mono hb2.size)
          have p3 := p2.below hb1 p2.lt
          have q3 := q2.below hb1 q2.lt
          clear HTX
          have c0 : w1.cell? ⟨w.heap.size, 0, none⟩ = some (.int .i64 1) := p3.cell 0
          have c1 : w1.cell? ⟨w.heap.size, 1, none⟩ = some (.int .i64 n0) := p3.cell 1
          have c2 : w1.cell? ⟨w.heap.size, 2, none⟩ = some (.string nm) := p3.cell 2
          have c3 : w1.cell? ⟨w.heap.size, 3, none⟩ = some (.slice L ls.length lc) := p3.cell 3
          have c4 : w1.cell? ⟨w.heap.size, 4, none⟩ = some (.slice A ts.length ac) := p3.cell 4
          have d0 : w1.cell? ⟨w.heap.size + 1, 0, none⟩ = some (.int .i64 (-9223372036854775808)) := q3.cell 0
          have d1 : w1.cell? ⟨w.heap.size + 1, 1, none⟩ = some (.int .i64 9223372036854775807) := q3.cell 1
          have d2 : w1.cell? ⟨w.heap.size + 1, 2, none⟩ = some (.bool false) := q3.cell 2
          have d3 : w1.cell? ⟨w.heap.size + 1, 3, none⟩ = some (.bool false) := q3.cell 3
          have d4 : w1.cell? ⟨w.heap.size + 1, 4, none⟩ = some (.int .i64 0) := q3.cell 4
          have d5 : w1.cell? ⟨w.heap.size + 1, 5, none⟩ = some (.int .i64 0) := q3.cell 5
          cases htx : textsOk false false nm ls
          · rw [htx, Bool.false_and] at hr
            clear htx
            go_wp2
            go_ret
            exact ⟨by rw [hr.out]; rfl, hb1'⟩
          · rw [htx, Bool.true_and] at hr
            clear htx
            go_wp2_with fail
            refine (allowsArgs_any _ _ _ _ _ _ _ _ _ _ _ _ _ _ _ w1).mono ?_
            rintro e w4 ⟨rfl, hb4⟩
            go_wp2
            go_ret
            exact ⟨by rw [hr.out]; rfl, hb1'.trans (hb4.mono hb1'.size)⟩
        · exact absurd hnum.2 g2
      · exact absurd hnum.1 g1
    · clear p0
      obtain ⟨hb2, p2, q2, hs2⟩ := boxes2 w 27 157 #[.int .i64 2, .int .i64 n0, .string nm, .slice L ls.length lc, .slice A ts.length ac] #[.int .i64 0, .int .i64 1, .bool false, .bool false, .int .i64 0, .int .i64 0]
      have hnb := node_by_form 2 n0 nm ls ts.length hnum hm 0 1 0 0 false false (by simp)
      have hFw := HFA.out.below hb0
      have f0 : (w.alloc (.cells #[.int .i64 2, .int .i64 n0, .string nm, .slice L ls.length lc, .slice A ts.length ac] 27)).cell? ⟨0, 12, none⟩ = some (.int .i64 0) := hFw.2 12 (by omega)
      have f1 : (w.alloc (.cells #[.int .i64 2, .int .i64 n0, .string nm, .slice L ls.length lc, .slice A ts.length ac] 27)).cell? ⟨0, 13, none⟩ = some (.int .i64 1) := hFw.2 13 (by omega)
      have f2 : (w.alloc (.cells #[.int .i64 2, .int .i64 n0, .string nm, .slice L ls.length lc, .slice A ts.length ac] 27)).cell? ⟨0, 14, none⟩ = some (.bool false) := hFw.2 14 (by omega)
      have f3 : (w.alloc (.cells #[.int .i64 2, .int .i64 n0, .string nm, .slice L ls.length lc, .slice A ts.length ac] 27)).cell? ⟨0, 15, none⟩ = some (.bool false) := hFw.2 15 (by omega)
      have f4 : (w.alloc (.cells #[.int .i64 2, .int .i64 n0, .string nm, .slice L ls.length lc, .slice A ts.length ac] 27)).cell? ⟨0, 16, none⟩ = some (.int .i64 0) := hFw.2 16 (by omega)
      have f5 : (w.alloc (.cells #[.int .i64 2, .int .i64 n0, .string nm, .slice L ls.length lc, .slice A ts.length ac] 27)).cell? ⟨0, 17, none⟩ = some (.int .i64 0) := hFw.2 17 (by omega)
      have HNB := Lib.hid hnb
      have HTX := Lib.hid (allowsTexts_any false false 0 1 0 0 2 n0 nm ls ts.length L A lc ac _ (HLS.out.up' hb2) hnm hnl HZ.out)
      clear hnb hFw hs2
      by_cases g1 : 0 ≤ n0
      · by_cases g2 : n0 ≤ 1
        · have hr := Lib.hid (show nodeVB 2 n0 nm ls ts.length = (textsOk false false nm ls && argsOk false 0 0 ls.length ts.length) by rw [HNB.out]; simp only [decide_eq_true g1, decide_eq_true g2, Bool.true_and])
          clear HNB
          go_enter Tryd.func86, Tryd.ntmps86
          go_wp2_with fail
          clear f0 f1 f2 f3 f4 f5
          generalize (w.alloc (.cells #[.int .i64 2, .int .i64 n0, .string nm, .slice L ls.length lc, .slice A ts.length ac] 27)).alloc (.cells #[.int .i64 0, .int .i64 1, .bool false, .bool false, .int .i64 0, .int .i64 0] 157) = w0 at *
          refine HTX.out.mono ?_
          rintro e w1 ⟨rfl, hb1⟩
          have hb1' := hb2.trans (hb1.mono hb2.size)
          have p3 := p2.below hb1 p2.lt
          have q3 := q2.below hb1 q2.lt
          clear HTX
          have c0 : w1.cell? ⟨w.heap.size, 0, none⟩ = some (.int .i64 2) := p3.cell 0
          have c1 : w1.cell? ⟨w.heap.size, 1, none⟩ = some (.int .i64 n0) := p3.cell 1
          have c2 : w1.cell? ⟨w.heap.size, 2, none⟩ = some (.string nm) := p3.cell 2
          have c3 : w1.cell? ⟨w.heap.size, 3, none⟩ = some (.slice L ls.length lc) := p3.cell 3
          have c4 : w1.cell? ⟨w.heap.size, 4, none⟩ = some (.slice A ts.length ac) := p3.cell 4
          have d0 : w1.cell? ⟨w.heap.size + 1, 0, none⟩ = some (.int .i64 0) := q3.cell 0
          have d1 : w1.cell? ⟨w.heap.size + 1, 1, none⟩ = some (.int .i64 1) := q3.cell 1
          have d2 : w1.cell? ⟨w.heap.size + 1, 2, none⟩ = some (.bool false) := q3.cell 2
          have d3 : w1.cell? ⟨w.heap.size + 1, 3, none⟩ = some (.bool false) := q3.cell 3
          have d4 : w1.cell? ⟨w.heap.size + 1, 4, none⟩ = some (.int .i64 0) := q3.cell 4
          have d5 : w1.cell? ⟨w.heap.size + 1, 5, none⟩ = some (.int .i64 0) := q3.cell 5
          cases htx : textsOk false false nm ls
          · rw [htx, Bool.false_and] at hr
            clear htx
            go_wp2
            go_ret
            exact ⟨by rw [hr.out]; rfl, hb1'⟩
          · rw [htx, Bool.true_and] at hr
            clear htx
            go_wp2_with fail
            refine (allowsArgs_any _ _ _ _ _ _ _ _ _ _ _ _ _ _ _ w1).mono ?_
            rintro e w4 ⟨rfl, hb4⟩
            go_wp2
            go_ret
            exact ⟨by rw [hr.out]; rfl, hb1'.trans (hb4.mono hb1'.size)⟩
        · have hr := Lib.hid (show nodeVB 2 n0 nm ls ts.length = false by rw [HNB.out]; simp [g2])
          clear HNB
          go_enter Tryd.func86, Tryd.ntmps86
          go_wp2
          go_ret
          exact ⟨by rw [hr.out]; rfl, hb2⟩
      · have hr := Lib.hid (show nodeVB 2 n0 nm ls ts.length = false by rw [HNB.out]; simp [g1])
        clear HNB
        go_enter Tryd.func86, Tryd.ntmps86
        go_wp2
        go_ret
        exact ⟨by rw [hr.out]; rfl, hb2⟩
    · clear p0
      obtain ⟨hb2, p2, q2, hs2⟩ := boxes2 w 27 157 #[.int .i64 3, .int .i64 n0, .string nm, .slice L ls.length lc, .slice A ts.length ac] #[.int .i64 0, .int .i64 0, .bool false, .bool true, .int .i64 1, .int .i64 4]
      have hnb := node_by_form 3 n0 nm ls ts.length hnum hm 0 0 1 4 false true (by simp)
      have hFw := HFA.out.below hb0
      have f0 : (w.alloc (.cells #[.int .i64 3, .int .i64 n0, .string nm, .slice L ls.length lc, .slice A ts.length ac] 27)).cell? ⟨0, 18, none⟩ = some (.int .i64 0) := hFw.2 18 (by omega)
      have f1 : (w.alloc (.cells #[.int .i64 3, .int .i64 n0, .string nm, .slice L ls.length lc, .slice A ts.length ac] 27)).cell? ⟨0, 19, none⟩ = some (.int .i64 0) := hFw.2 19 (by omega)
      have f2 : (w.alloc (.cells #[.int .i64 3, .int .i64 n0, .string nm, .slice L ls.length lc, .slice A ts.length ac] 27)).cell? ⟨0, 20, none⟩ = some (.bool false) := hFw.2 20 (by omega)
      have f3 : (w.alloc (.cells #[.int .i64 3, .int .i64 n0, .string nm, .slice L ls.length lc, .slice A ts.length ac] 27)).cell? ⟨0, 21, none⟩ = some (.bool true) := hFw.2 21 (by omega)
      have f4 : (w.alloc (.cells #[.int .i64 3, .int .i64 n0, .string nm, .slice L ls.length lc, .slice A ts.length ac] 27)).cell? ⟨0, 22, none⟩ = some (.int .i64 1) := hFw.2 22 (by omega)
      have f5 : (w.alloc (.cells #[.int .i64 3, .int .i64 n0, .string nm, .slice L ls.length lc, .slice A ts.length ac] 27)).cell? ⟨0, 23, none⟩ = some (.int .i64 4) := hFw.2 23 (by omega)
      have HNB := Lib.hid hnb
      have HTX := Lib.hid (allowsTexts_any false true 0 0 1 4 3 n0 nm ls ts.length L A lc ac _ (HLS.out.up' hb2) hnm hnl HZ.out)
      clear hnb hFw hs2
      by_cases g1 : 0 ≤ n0
      · by_cases g2 : n0 ≤ 0
        · have hr := Lib.hid (show nodeVB 3 n0 nm ls ts.length = (textsOk false true nm ls && argsOk true 1 4 ls.length ts.length) by rw [HNB.out]; simp only [decide_eq_true g1, decide_eq_true g2, Bool.true_and])
          clear HNB
          go_enter Tryd.func86, Tryd.ntmps86
          go_wp2_with fail
          clear f0 f1 f2 f3 f4 f5
          generalize (w.alloc (.cells #[.int .i64 3, .int .i64 n0, .string nm, .slice L ls.length lc, .slice A ts.length ac] 27)).alloc (.cells #[.int .i64 0, .int .i64 0, .bool false, .bool true, .int .i64 1, .int .i64 4] 157) = w0 at *
          refine HTX.out.mono ?_
          rintro e w1 ⟨rfl, hb1⟩
          have hb1' := hb2.trans (hb1.mono hb2.size)
          have p3 := p2.below hb1 p2.lt
          have q3 := q2.below hb1 q2.lt
          clear HTX
          have c0 : w1.cell? ⟨w.heap.size, 0, none⟩ = some (.int .i64 3) := p3.cell 0
          have c1 : w1.cell? ⟨w.heap.size, 1, none⟩ = some (.int .i64 n0) := p3.cell 1
          have c2 : w1.cell? ⟨w.heap.size, 2, none⟩ = some (.string nm) := p3.cell 2
          have c3 : w1.cell? ⟨w.heap.size, 3, none⟩ = some (.slice L ls.length lc) := p3.cell 3
          have c4 : w1.cell? ⟨w.heap.size, 4, none⟩ = some (.slice A ts.length ac) := p3.cell 4
          have d0 : w1.cell? ⟨w.heap.size + 1, 0, none⟩ = some (.int .i64 0) := q3.cell 0
          have d1 : w1.cell? ⟨w.heap.size + 1, 1, none⟩ = some (.int .i64 0) := q3.cell 1
          have d2 : w1.cell? ⟨w.heap.size + 1, 2, none⟩ = some (.bool false) := q3.cell 2
          have d3 : w1.cell? ⟨w.heap.size + 1, 3, none⟩ = some (.bool true) := q3.cell 3
          have d4 : w1.cell? ⟨w.heap.size + 1, 4, none⟩ = some (.int .i64 1) := q3.cell 4
          have d5 : w1.cell? ⟨w.heap.size + 1, 5, none⟩ = some (.int .i64 4) := q3.cell 5
          cases htx : textsOk false true nm ls
          · rw [htx, Bool.false_and] at hr
            clear htx
            go_wp2
            go_ret
            exact ⟨by rw [hr.out]; rfl, hb1'⟩
          · rw [htx, Bool.true_and] at hr
            clear htx
            go_wp2_with fail
            refine (allowsArgs_any _ _ _ _ _ _ _ _ _ _ _ _ _ _ _ w1).mono ?_
            rintro e w4 ⟨rfl, hb4⟩
            go_wp2
            go_ret
            exact ⟨by rw [hr.out]; rfl, hb1'.trans (hb4.mono hb1'.size)⟩
        · have hr := Lib.hid (show nodeVB 3 n0 nm ls ts.length = false by rw [HNB.out]; simp [g2])
          clear HNB
          go_enter Tryd.func86, Tryd.ntmps86
          go_wp2
          go_ret
          exact ⟨by rw [hr.out]; rfl, hb2⟩
      · have hr := Lib.hid (show nodeVB 3 n0 nm ls ts.length = false by rw [HNB.out]; simp [g1])
        clear HNB
        go_enter Tryd.func86, Tryd.ntmps86
        go_wp2
        go_ret
        exact ⟨by rw [hr.out]; rfl, hb2⟩
    · clear p0
      obtain ⟨hb2, p2, q2, hs2⟩ := boxes2 w 27 157 #[.int .i64 4, .int .i64 n0, .string nm, .slice L ls.length lc, .slice A ts.length ac] #[.int .i64 0, .int .i64 0, .bool true, .bool false, .int .i64 1, .int .i64 1]
      have hnb := node_by_form 4 n0 nm ls ts.length hnum hm 0 0 1 1 true false (by simp)
      have hFw := HFA.out.below hb0
      have f0 : (w.alloc (.cells #[.int .i64 4, .int .i64 n0, .string nm, .slice L ls.length lc, .slice A ts.length ac] 27)).cell? ⟨0, 24, none⟩ = some (.int .i64 0) := hFw.2 24 (by omega)
      have f1 : (w.alloc (.cells #[.int .i64 4, .int .i64 n0, .string nm, .slice L ls.length lc, .slice A ts.length ac] 27)).cell? ⟨0, 25, none⟩ = some (.int .i64 0) := hFw.2 25 (by omega)
      have f2 : (w.alloc (.cells #[.int .i64 4, .int .i64 n0, .string nm, .slice L ls.length lc, .slice A ts.length ac] 27)).cell? ⟨0, 26, none⟩ = some (.bool true) := hFw.2 26 (by omega)
      have f3 : (w.alloc (.cells #[.int .i64 4, .int .i64 n0, .string nm, .slice L ls.length lc, .slice A ts.length ac] 27)).cell? ⟨0, 27, none⟩ = some (.bool false) := hFw.2 27 (by omega)
      have f4 : (w.alloc (.cells #[.int .i64 4, .int .i64 n0, .string nm, .slice L ls.length lc, .slice A ts.length ac] 27)).cell? ⟨0, 28, none⟩ = some (.int .i64 1) := hFw.2 28 (by omega)
      have f5 : (w.alloc (.cells #[.int .i64 4, .int .i64 n0, .string nm, .slice L ls.length lc, .slice A ts.length ac] 27)).cell? ⟨0, 29, none⟩ = some (.int .i64 1) := hFw.2 29 (by omega)
      have HNB := Lib.hid hnb
      have HTX := Lib.hid (allowsTexts_any true false 0 0 1 1 4 n0 nm ls ts.length L A lc ac _ (HLS.out.up' hb2) hnm hnl HZ.out)
      clear hnb hFw hs2
      by_cases g1 : 0 ≤ n0
      · by_cases g2 : n0 ≤ 0
        · have hr := Lib.hid (show nodeVB 4 n0 nm ls ts.length = (textsOk true false nm ls && argsOk false 1 1 ls.length ts.length) by rw [HNB.out]; simp only [decide_eq_true g1, decide_eq_true g2, Bool.true_and])
          clear HNB
          go_enter Tryd.func86, Tryd.ntmps86
          go_wp2_with fail
          clear f0 f1 f2 f3 f4 f5
          generalize (w.alloc (.cells #[.int .i64 4, .int .i64 n0, .string nm, .slice L ls.length lc, .slice A ts.length ac] 27)).alloc (.cells #[.int .i64 0, .int .i64 0, .bool true, .bool false, .int .i64 1, .int .i64 1] 157) = w0 at *
          refine HTX.out.mono ?_
          rintro e w1 ⟨rfl, hb1⟩
          have hb1' := hb2.trans (hb1.mono hb2.size)
          have p3 := p2.below hb1 p2.lt
          have q3 := q2.below hb1 q2.lt
          clear HTX
          have c0 : w1.cell? ⟨w.heap.size, 0, none⟩ = some (.int .i64 4) := p3.cell 0
          have c1 : w1.cell? ⟨w.heap.size, 1, none⟩ = some (.int .i64 n0) := p3.cell 1
          have c2 : w1.cell? ⟨w.heap.size, 2, none⟩ = some (.string nm) := p3.cell 2
          have c3 : w1.cell? ⟨w.heap.size, 3, none⟩ = some (.slice L ls.length lc) := p3.cell 3
          have c4 : w1.cell? ⟨w.heap.size, 4, none⟩ = some (.slice A ts.length ac) := p3.cell 4
          have d0 : w1.cell? ⟨w.heap.size + 1, 0, none⟩ = some (.int .i64 0) := q3.cell 0
          have d1 : w1.cell? ⟨w.heap.size + 1, 1, none⟩ = some (.int .i64 0) := q3.cell 1
          have d2 : w1.cell? ⟨w.heap.size + 1, 2, none⟩ = some (.bool true) := q3.cell 2
          have d3 : w1.cell? ⟨w.heap.size + 1, 3, none⟩ = some (.bool false) := q3.cell 3
          have d4 : w1.cell? ⟨w.heap.size + 1, 4, none⟩ = some (.int .i64 1) := q3.cell 4
          have d5 : w1.cell? ⟨w.heap.size + 1, 5, none⟩ = some (.int .i64 1) := q3.cell 5
          cases htx : textsOk true false nm ls
          · rw [htx, Bool.false_and] at hr
            clear htx
            go_wp2
            go_ret
            exact ⟨by rw [hr.out]; rfl, hb1'⟩
          · rw [htx, Bool.true_and] at hr
            clear htx
            go_wp2_with fail
            refine (allowsArgs_any _ _ _ _ _ _ _ _ _ _ _ _ _ _ _ w1).mono ?_
            rintro e w4 ⟨rfl, hb4⟩
            go_wp2
            go_ret
            exact ⟨by rw [hr.out]; rfl, hb1'.trans (hb4.mono hb1'.size)⟩
        · have hr := Lib.hid (show nodeVB 4 n0 nm ls ts.length = false by rw [HNB.out]; simp [g2])
          clear HNB
          go_enter Tryd.func86, Tryd.ntmps86
          go_wp2
          go_ret
          exact ⟨by rw [hr.out]; rfl, hb2⟩
      · have hr := Lib.hid (show nodeVB 4 n0 nm ls ts.length = false by rw [HNB.out]; simp [g1])
        clear HNB
        go_enter Tryd.func86, Tryd.ntmps86
        go_wp2
        go_ret
        exact ⟨by rw [hr.out]; rfl, hb2⟩
    · clear p0
      obtain ⟨hb2, p2, q2, hs2⟩ := boxes2 w 27 157 #[.int .i64 5, .int .i64 n0, .string nm, .slice L ls.length lc, .slice A ts.length ac] #[.int .i64 0, .int .i64 0, .bool false, .bool false, .int .i64 0, .int .i64 9223372036854775807]
      have hnb := node_by_form 5 n0 nm ls ts.length hnum hm 0 0 0 9223372036854775807 false false (by simp)
      have hFw := HFA.out.below hb0
      have f0 : (w.alloc (.cells #[.int .i64 5, .int .i64 n0, .string nm, .slice L ls.length lc, .slice A ts.length ac] 27)).cell? ⟨0, 30, none⟩ = some (.int .i64 0) := hFw.2 30 (by omega)
      have f1 : (w.alloc (.cells #[.int .i64 5, .int .i64 n0, .string nm, .slice L ls.length lc, .slice A ts.length ac] 27)).cell? ⟨0, 31, none⟩ = some (.int .i64 0) := hFw.2 31 (by omega)
      have f2 : (w.alloc (.cells #[.int .i64 5, .int .i64 n0, .string nm, .slice L ls.length lc, .slice A ts.length ac] 27)).cell? ⟨0, 32, none⟩ = some (.bool false) := hFw.2 32 (by omega)
      have f3 : (w.alloc (.cells #[.int .i64 5, .int .i64 n0, .string nm, .slice L ls.length lc, .slice A ts.length ac] 27)).cell? ⟨0, 33, none⟩ = some (.bool false) := hFw.2 33 (by omega)
      have f4 : (w.alloc (.cells #[.int .i64 5, .int .i64 n0, .string nm, .slice L ls.length lc, .slice A ts.length ac] 27)).cell? ⟨0, 34, none⟩ = some (.int .i64 0) := hFw.2 34 (by omega)
      have f5 : (w.alloc (.cells #[.int .i64 5, .int .i64 n0, .string nm, .slice L ls.length lc, .slice A ts.length ac] 27)).cell? ⟨0, 35, none⟩ = some (.int .i64 9223372036854775807) := hFw.2 35 (by omega)
      have HNB := Lib.hid hnb
      have HTX := Lib.hid (allowsTexts_any false false 0 0 0 9223372036854775807 5 n0 nm ls ts.length L A lc ac _ (HLS.out.up' hb2) hnm hnl HZ.out)
      clear hnb hFw hs2
      by_cases g1 : 0 ≤ n0
      · by_cases g2 : n0 ≤ 0
        · have hr := Lib.hid (show nodeVB 5 n0 nm ls ts.length = (textsOk false false nm ls && argsOk false 0 9223372036854775807 ls.length ts.length) by rw [HNB.out]; simp only [decide_eq_true g1, decide_eq_true g2, Bool.true_and])
          clear HNB
          go_enter Tryd.func86, Tryd.ntmps86
          go_wp2_with fail
          clear f0 f1 f2 f3 f4 f5
          generalize (w.alloc (.cells #[.int .i64 5, .int .i64 n0, .string nm, .slice L ls.length lc, .slice A ts.length ac] 27)).alloc (.cells #[.int .i64 0, .int .i64 0, .bool false, .bool false, .int .i64 0, .int .i64 9223372036854775807] 157) = w0 at *
          refine HTX.out.mono ?_
          rintro e w1 ⟨rfl, hb1⟩
          have hb1' := hb2.trans (hb1.mono hb2.size)
          have p3 := p2.below hb1 p2.lt
          have q3 := q2.below hb1 q2.lt
          clear HTX
          have c0 : w1.cell? ⟨w.heap.size, 0, none⟩ = some (.int .i64 5) := p3.cell 0
          have c1 : w1.cell? ⟨w.heap.size, 1, none⟩ = some (.int .i64 n0) := p3.cell 1
          have c2 : w1.cell? ⟨w.heap.size, 2, none⟩ = some (.string nm) := p3.cell 2
          have c3 : w1.cell? ⟨w.heap.size, 3, none⟩ = some (.slice L ls.length lc) := p3.cell 3
          have c4 : w1.cell? ⟨w.heap.size, 4, none⟩ = some (.slice A ts.length ac) := p3.cell 4
          have d0 : w1.cell? ⟨w.heap.size + 1, 0, none⟩ = some (.int .i64 0) := q3.cell 0
          have d1 : w1.cell? ⟨w.heap.size + 1, 1, none⟩ = some (.int .i64 0) := q3.cell 1
          have d2 : w1.cell? ⟨w.heap.size + 1, 2, none⟩ = some (.bool false) := q3.cell 2
          have d3 : w1.cell? ⟨w.heap.size + 1, 3, none⟩ = some (.bool false) := q3.cell 3
          have d4 : w1.cell? ⟨w.heap.size + 1, 4, none⟩ = some (.int .i64 0) := q3.cell 4
          have d5 : w1.cell? ⟨w.heap.size + 1, 5, none⟩ = some (.int .i64 9223372036854775807) := q3.cell 5
          cases htx : textsOk false false nm ls
          · rw [htx, Bool.false_and] at hr
            clear htx
            go_wp2
            go_ret
            exact ⟨by rw [hr.out]; rfl, hb1'⟩
          · rw [htx, Bool.true_and] at hr
            clear htx
            go_wp2_with fail
            refine (allowsArgs_any _ _ _ _ _ _ _ _ _ _ _ _ _ _ _ w1).mono ?_
            rintro e w4 ⟨rfl, hb4⟩
            go_wp2
            go_ret
            exact ⟨by rw [hr.out]; rfl, hb1'.trans (hb4.mono hb1'.size)⟩
        · have hr := Lib.hid (show nodeVB 5 n0 nm ls ts.length = false by rw [HNB.out]; simp [g2])
          clear HNB
          go_enter Tryd.func86, Tryd.ntmps86
          go_wp2
          go_ret
          exact ⟨by rw [hr.out]; rfl, hb2⟩
      · have hr := Lib.hid (show nodeVB 5 n0 nm ls ts.length = false by rw [HNB.out]; simp [g1])
        clear HNB
        go_enter Tryd.func86, Tryd.ntmps86
        go_wp2
        go_ret
        exact ⟨by rw [hr.out]; rfl, hb2⟩
  · have hr := Lib.hid (nodeVB_other k0 n0 nm ls ts.length (by omega) (by omega) (by omega) (by omega) (by omega))
    by_cases hlo : k0 < 1
    · clear hr15
      go_enter Tryd.func86, Tryd.ntmps86
      go_wp2
      go_ret
      exact ⟨by rw [hr.out]; rfl, hb0⟩
    · have hhi : k0 > 5 := by omega
      clear hr15
      go_enter Tryd.func86, Tryd.ntmps86
      go_wp2
      go_ret
      exact ⟨by rw [hr.out]; rfl, hb0⟩

end Go.Proofs.YtlmbnefoobameaaDoor
end

section
namespace Go.Proofs.YtlmbnefoobameaaDoor
set_option maxRecDepth 100000
open Go.RowKit

/-- What is left of the nodes allowed; -1, if there are too many, or one has no form. -/
def leftForm (t : Va) (a : Int) : Int := if (sizeVa t : Int) ≤ a ∧ formVa t = true then a - sizeVa t else -1
theorem leftForm_zero (t : Va) : leftForm t 0 = -1 := by
  have := sizeVa_eq t
  unfold leftForm
  rw [if_neg (by omega)]
theorem leftForm_no (t : Va) (a : Int) (h : nodeVB t.kind t.num t.name t.labels t.args.length = false) : leftForm t a = -1 := by
  unfold leftForm
  rw [if_neg]
  rintro ⟨_, h2⟩
  rw [formVa_eq, h, Bool.and_false] at h2
  cases h2
theorem leftForm_part (t : Va) (a : Int) (k : Nat) (hk : k < t.args.length) (h : leftForm t.args[k] (a - 1 - (sizeVas (t.args.take k) : Int)) < 0) : leftForm t a = -1 := by
  have h1 := sizeVas_take t.args k hk
  have h2 := sizeVas_le t.args (k + 1)
  have h3 := sizeVa_eq t
  unfold leftForm at *
  rw [if_neg]
  rintro ⟨h4, h5⟩
  rw [formVa_eq, Bool.and_eq_true] at h5
  rw [if_pos ⟨by omega, formVas_at _ h5.1 k hk⟩] at h
  omega
theorem leftForm_next (t : Va) (a : Int) (k : Nat) (hk : k < t.args.length) (h : ¬ leftForm t.args[k] (a - 1 - (sizeVas (t.args.take k) : Int)) < 0) : leftForm t.args[k] (a - 1 - (sizeVas (t.args.take k) : Int)) = a - 1 - (sizeVas (t.args.take (k + 1)) : Int) ∧ formVa t.args[k] = true := by
  have h1 := sizeVas_take t.args k hk
  unfold leftForm at *
  split at h
  · rename_i h2
    rw [if_pos h2]
    exact ⟨by omega, h2.2⟩
  · omega
theorem leftForm_yes (t : Va) (a : Int) (h0 : nodeVB t.kind t.num t.name t.labels t.args.length = true) (h1 : 0 ≤ a - 1 - (sizeVas t.args : Int)) (h2 : ∀ i, (h : i < t.args.length) → formVa t.args[i] = true) : leftForm t a = a - 1 - (sizeVas t.args : Int) := by
  have h3 := sizeVa_eq t
  unfold leftForm
  rw [if_pos ⟨by omega, by rw [formVa_eq, formVas_all _ h2, h0]; rfl⟩]
  omega

def LeftFOne (t : Va) : Prop := ∀ (V : Value) (a : Int) (w : World), VaAt w w.heap.size V t → FormsAt w → numsB t = true → szVa t ≤ 1048576 → 0 ≤ a → a ≤ 1000 → Calls Tryd.prog 43 #[V, .int .i64 a] w (IntBelow (leftForm t a) w)

set_option maxHeartbeats 4000000 in
theorem nodesLeft_of (k0 n0 : Int) (nm : ByteArray) (ls : List ByteArray) (ts : List Va) (hall : ∀ i, (h : i < ts.length) → LeftFOne ts[i]) : LeftFOne (.mk k0 n0 nm ls ts) := by
  intro V a w hv hF hnum hsz h0 h1
  have hse := szVa_eq (.mk k0 n0 nm ls ts)
  obtain ⟨hnum1, hnum2⟩ := numsB_of _ hnum
  have hv0 := hv
  have HFO := Lib.hid (fun W h hf => hasValueForm_any (.mk k0 n0 nm ls ts) V W h hf hnum1 hsz)
  have hZ := Lib.hid (leftForm_zero (.mk k0 n0 nm ls ts))
  have hNo := Lib.hid (leftForm_no (.mk k0 n0 nm ls ts) a)
  have hPa := Lib.hid (leftForm_part (.mk k0 n0 nm ls ts) a)
  have hNx := Lib.hid (leftForm_next (.mk k0 n0 nm ls ts) a)
  have hYe := Lib.hid (leftForm_yes (.mk k0 n0 nm ls ts) a)
  obtain ⟨L, lc, A, ac, rfl, _, _, _, _, ha⟩ := hv.open
  simp only [Va.kind, Va.num, Va.name, Va.labels, Va.args] at *
  have hm := ha.1
  unfold maxLen at hm
  have hsz2 : szVas ts ≤ 1048576 := by omega
  have HALL := Lib.hid hall
  have HNUM := Lib.hid hnum2
  generalize hres : leftForm (.mk k0 n0 nm ls ts) a = res at *
  obtain ⟨hb0, p0, hs0⟩ := boxes1 w 27 #[.int .i64 k0, .int .i64 n0, .string nm, .slice L ls.length lc, .slice A ts.length ac]
  have ha0 := ha.up hb0
  have hF0 := hF.below hb0
  have HV := Lib.hid (HFO.out _ (hv0.up hb0) hF0)
  have HRS := Lib.hid hres
  clear hall hv hv0 ha hse hs0 hnum hnum1 hnum2 hF HFO hres
  by_cases hz : a = 0
  · subst hz
    have hr := Lib.hid (show res = -1 from HRS.out.symm.trans hZ.out)
    go_enter Tryd.func43, Tryd.ntmps43
    go_wp2
    go_ret
    exact ⟨by rw [hr.out]; rfl, hb0⟩
  · have i0 : (a == 0) = false := by rw [beq_eq_false_iff_ne]; exact hz
    cases hnode : nodeVB k0 n0 nm ls ts.length
    · have hr := Lib.hid (show res = -1 from hNo.out hnode)
      rw [hnode] at HV
      clear hnode hz
      go_enter Tryd.func43, Tryd.ntmps43
      go_wp2_with fail
      generalize w.alloc (.cells #[.int .i64 k0, .int .i64 n0, .string nm, .slice L ls.length lc, .slice A ts.length ac] 27) = w0 at *
      refine HV.out.mono ?_
      rintro e w1 ⟨rfl, hb1⟩
      go_wp2
      go_ret
      exact ⟨by rw [hr.out]; rfl, hb0.trans (hb1.mono hb0.size)⟩
    · rw [hnode] at HV
      have HND := Lib.hid hnode
      clear hnode
      go_enter Tryd.func43, Tryd.ntmps43
      go_wp2_with fail
      generalize w.alloc (.cells #[.int .i64 k0, .int .i64 n0, .string nm, .slice L ls.length lc, .slice A ts.length ac] 27) = w0 at *
      refine HV.out.mono ?_
      rintro e w1 ⟨rfl, hb1⟩
      have hb1' := hb0.trans (hb1.mono hb0.size)
      have p1 := p0.below hb1 p0.lt
      have ha1 := ha0.up hb1
      have hF1 := hF0.below hb1
      have c4 : w1.cell? ⟨w.heap.size, 4, none⟩ = some (.slice A ts.length ac) := p1.cell 4
      clear HV ha0 hF0 p0 hb0
      go_wp2
      clear c4
      go_loopw [5, 20] (fun lf i wr => ∃ (k : Nat) (x : Int), k ≤ ts.length ∧ i = .int .i64 k ∧ lf = .int .i64 x ∧ Hid (x = a - 1 - (sizeVas (ts.take k) : Int)) ∧ 0 ≤ x ∧ x ≤ 1000 ∧ (∀ j, (hj : j < ts.length) → j < k → formVa ts[j] = true) ∧ Below w1.heap.size w1 wr) (fun _ i _ => ts.length - (intOf i).toNat)
      case atStart => exact ⟨0, a - 1, Nat.zero_le _, rfl, rfl, Lib.hid (by simp [sizeVas]), by omega, by omega, fun j _ h => absurd h (by omega), Below.refl _ _⟩
      case round =>
        obtain ⟨k, x, hk, rfl, rfl, hx, hx0, hx1, hall, hb⟩ := hrel
        have HA := Lib.hid hall
        clear hall
        have hbw := hb1'.trans (hb.mono hb1'.size)
        by_cases hlt : k < ts.length
        · obtain ⟨b, off, L1, lc1, A1, ac1, rfl, hbl, q0, q1, q2, q3, q4, ht⟩ := (ha1.below hb).elem k hlt
          have hpt := szVa_part ts k hlt
          have hbx := (Below.refl wr.heap.size wr).alloc (Nat.le_refl _) (.cells #[.int .i64 ts[k].kind, .int .i64 ts[k].num, .string ts[k].name, .slice L1 ts[k].labels.length lc1, .slice A1 ts[k].args.length ac1] 27)
          have HT := HALL.out k hlt _ x _ ((ht.more hb.size).up hbx) ((hF1.below hb).below hbx) (HNUM.out k hlt) (by omega) hx0 hx1
          by_cases hneg : leftForm ts[k] x < 0
          · have hr := Lib.hid (show res = -1 from hPa.out k hlt (by rw [← hx.out]; exact hneg))
            have HT' := Lib.hid HT
            generalize leftForm ts[k] x = y at *
            clear ht HT
            go_wp2_with fail
            refine HT'.out.mono ?_
            rintro e w3 ⟨rfl, hb3⟩
            go_wp2
            go_ret
            exact ⟨by rw [hr.out]; rfl, hbw.trans ((hbx.trans (hb3.mono (by simp))).mono hbw.size)⟩
          · have hnx := hNx.out k hlt (by rw [← hx.out]; omega)
            rw [← hx.out] at hnx
            have HT' := Lib.hid HT
            have HX := Lib.hid hnx.1
            have HK := Lib.hid hnx.2
            have hle : leftForm ts[k] x ≤ x := by unfold leftForm; split <;> omega
            clear hnx
            generalize leftForm ts[k] x = y at *
            clear ht HT
            go_wp2_with fail
            refine HT'.out.mono ?_
            rintro e w3 ⟨rfl, hb3⟩
            go_wp2
            go_roundw
            case rel =>
              refine ⟨k + 1, y, by omega, by go_num, rfl, Lib.hid HX.out, by omega, by omega, fun j hj h => ?_, hb.trans ((hbx.trans (hb3.mono (by simp))).mono hb.size)⟩
              by_cases e : j = k
              · subst e
                exact HK.out
              · exact HA.out j hj (by omega)
            case measure => simp [intOf]; omega
        · have hke : k = ts.length := by omega
          subst hke
          rw [List.take_length] at hx
          have hr := Lib.hid (show res = x by rw [hYe.out HND.out (by rw [← hx.out]; exact hx0) fun i hi => HA.out i hi hi, hx.out])
          go_wp2
          go_ret
          exact ⟨by rw [hr.out]; rfl, hbw⟩

theorem nodesLeft_any (t : Va) : LeftFOne t := by
  induction t using Va.ind with
  | h k n nm ls ts ih => exact nodesLeft_of k n nm ls ts ih

set_option maxHeartbeats 1000000 in
theorem implIsValue_any (t : Va) (v : Value) (w : World) (hv : OwnV w v t) (hF : FormsAt w) (hnum : numsB t = true) (hsz : szVa t ≤ 1048576) : Calls Tryd.prog 14 #[v] w (BoolIs (valueB t) w) := by
  have HN := Lib.hid (fun V W h hf => nodesLeft_any t V 300 W h hf hnum hsz (by omega) (by omega))
  obtain ⟨L, lc, A, ac, rfl, _⟩ := hv.open
  obtain ⟨hb0, p0, hs0⟩ := boxes1 w 27 #[.int .i64 t.kind, .int .i64 t.num, .string t.name, .slice L t.labels.length lc, .slice A t.args.length ac]
  have hv0 := hv.up hb0
  have HF := Lib.hid (HN.out _ _ hv0.here (hF.below hb0))
  clear hv hv0 hs0 p0
  by_cases h : (sizeVa t : Int) ≤ 300 ∧ formVa t = true
  · have hl : leftForm t 300 = 300 - sizeVa t := by unfold leftForm; rw [if_pos h]
    have i1 : (0 : Int) ≤ 300 - sizeVa t := by omega
    have hr := Lib.hid (show valueB t = true by unfold valueB; rw [h.2]; simp; omega)
    rw [hl] at HF
    have i2 : (300 : Int) - sizeVa t ≥ 0 := by omega
    clear h hl
    generalize (300 : Int) - (sizeVa t : Int) = x at *
    go_enter Tryd.func14, Tryd.ntmps14
    go_wp2_with fail
    refine HF.out.mono ?_
    rintro e w1 ⟨rfl, hb1⟩
    go_wp2
    go_ret
    exact ⟨by rw [hr.out]; rfl, hb0.trans (hb1.mono hb0.size)⟩
  · have hl : leftForm t 300 = -1 := by unfold leftForm; rw [if_neg h]
    have hr := Lib.hid (show valueB t = false by
      unfold valueB
      rw [Bool.and_eq_false_iff]
      by_cases h3 : formVa t = true
      · left
        rw [decide_eq_false_iff_not]
        intro h4
        exact h ⟨by omega, h3⟩
      · right
        simpa using h3)
    rw [hl] at HF
    clear h hl
    go_enter Tryd.func14, Tryd.ntmps14
    go_wp2_with fail
    refine HF.out.mono ?_
    rintro e w1 ⟨rfl, hb1⟩
    go_wp2
    go_ret
    exact ⟨by rw [hr.out]; rfl, hb0.trans (hb1.mono hb0.size)⟩

end Go.Proofs.YtlmbnefoobameaaDoor
end
