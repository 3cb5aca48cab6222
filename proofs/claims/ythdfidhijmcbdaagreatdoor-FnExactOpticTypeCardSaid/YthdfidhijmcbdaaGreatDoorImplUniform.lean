/- impl.IsUniform. -/
import Derived.Test.YthdfidhijmcbdaaGreatDoorImplPart
import Derived.Test.YthdfidhijmcbdaaGreatDoorImplEqual
namespace Go.Proofs.YthdfidhijmcbdaaGreatDoor
set_option maxRecDepth 100000
open Go.RowKit

theorem OwnT.kids {w : World} {a : Value} {L A : Option Addr} {n lc m ac : Nat} {t : Ty} (h : OwnT w (.agg #[a, .slice L n lc, .slice A m ac]) t) : OwnTs w A t.args := by
  obtain ⟨L', lc', A', ac', hv, _, _, _, ha⟩ := h.open
  simp at hv
  obtain ⟨_, _, rfl, _⟩ := hv
  exact ha

theorem uniform_nonrec (t : Ty) (h : t.kind ≠ 3) : uniformB t = false := by
  unfold uniformB
  simp [h]
theorem uniform_invalid (t : Ty) (h : validB t = false) : uniformB t = false := by
  unfold uniformB
  rw [h]
  rfl

set_option maxHeartbeats 4000000 in
theorem implUniform_any (t : Ty) (v : Value) (w : World) (hv : OwnT w v t) (hsz : szTy t ≤ 1048576) : Calls Tryz.prog 130 #[v] w (BoolIs (uniformB t) w) := by
  have hval := Lib.hid (fun V W h => implValid_any t V W h hsz)
  have hse := szTy_eq t
  obtain ⟨L, lc, A, ac, rfl, hn, _, _, _⟩ := hv.open
  obtain ⟨hb0, p0, hs0⟩ := boxes1 w 27 #[.int .i64 t.kind, .slice L t.labels.length lc, .slice A t.args.length ac]
  have hv0 := hv.up hb0
  have HF := Lib.hid (fun W (h : TyAt W W.heap.size (.agg #[.int .i64 t.kind, .slice L t.labels.length lc, .slice A t.args.length ac]) t) => formOf_any t.kind t.labels t.args L A lc ac W (by cases t; exact h) (by unfold maxLen; omega))
  clear hv hs0 hn
  go_enter Tryz.func130, Tryz.ntmps130
  go_wp2_with fail
  generalize w.alloc (.cells #[.int .i64 t.kind, .slice L t.labels.length lc, .slice A t.args.length ac] 27) = w0 at *
  refine (HF.out w0 hv0.here).mono ?_
  rintro e w1 ⟨fv, rfl, hfv, hb1⟩
  have hb1' := hb0.trans (hb1.mono hb0.size)
  have p1 := p0.below hb1 p0.lt
  have hv1 := hv0.up hb1
  clear HF p0 hv0
  rcases hfv with ⟨h0, rfl⟩ | ⟨_, hfv⟩
  · have hr := Lib.hid (show uniformB t = false by
      apply uniform_invalid
      cases hvb : validB t
      · rfl
      · have := valid_node t hvb
        rw [h0] at this
        cases this)
    have ha0 : ∀ W, (Instr.typeAssert .nilIface 136 166 true).run Tryz.prog W = .ok (.tuple #[.agg #[.slice none 0 0, .slice none 0 0], .bool false]) W := fun W => by kernel_rfl
    clear h0 p1 hv1 hval
    go_wp2
    go_ret
    exact ⟨by rw [hr.out]; rfl, hb1'.alloc hb1'.size _⟩
  · rcases hfv with ⟨hk, hts, rfl⟩ | ⟨hk, hts, rfl⟩ | ⟨hk, rfl⟩ | ⟨hk, rfl⟩ | ⟨hk, a, b, c, t1, hts, ht, rfl⟩
    · have hr := Lib.hid (uniform_nonrec t (by omega))
      have ha1 := ta_intForm_recForm
      clear p1 hv1 hval hts
      go_wp2
      go_ret
      exact ⟨by rw [hr.out]; rfl, hb1'.alloc hb1'.size _⟩
    · have hr := Lib.hid (uniform_nonrec t (by omega))
      have ha1 := ta_boolForm_recForm
      clear p1 hv1 hval hts
      go_wp2
      go_ret
      exact ⟨by rw [hr.out]; rfl, hb1'.alloc hb1'.size _⟩
    · have ha1 := ta_recForm_recForm
      have HKD := Lib.hid hk
      clear hk
      have hbx := (Below.refl w1.heap.size w1).alloc (Nat.le_refl _) (.cells #[.slice L t.labels.length lc, .slice A t.args.length ac] 166)
      have hv2 := hv1.up hbx
      have HV := Lib.hid (hval.out _ _ hv2)
      have hq := Whole1.new w1 166 #[.slice L t.labels.length lc, .slice A t.args.length ac]
      have hb2 := hb1'.trans (hbx.mono hb1'.size)
      have p2 := p1.below hbx p1.lt
      clear p1 hv1 hval hbx
      go_upto_region 2 with fail
      generalize w1.alloc (.cells #[.slice L t.labels.length lc, .slice A t.args.length ac] 166) = w2 at *
      have c0 : w2.cell? ⟨w.heap.size, 0, none⟩ = some (.int .i64 t.kind) := p2.cell 0
      have c1 : w2.cell? ⟨w.heap.size, 1, none⟩ = some (.slice L t.labels.length lc) := p2.cell 1
      have c2 : w2.cell? ⟨w.heap.size, 2, none⟩ = some (.slice A t.args.length ac) := p2.cell 2
      clear p2
      go_wp2_with fail
      refine HV.out.mono ?_
      rintro e w3 ⟨rfl, hb3⟩
      have hb3' := hb2.trans (hb3.mono hb2.size)
      have q3 := hq.below hb3 hq.lt
      have hv3 := hv2.up hb3
      clear hq hv2 HV c0 c1 c2
      cases hvb : validB t
      · have hr := Lib.hid (uniform_invalid t hvb)
        clear hvb q3 hv3
        go_wp2
        go_ret
        exact ⟨by rw [hr.out]; rfl, hb3'⟩
      · have HVB := Lib.hid hvb
        have d1 : w3.cell? ⟨w1.heap.size, 1, none⟩ = some (.slice A t.args.length ac) := q3.cell 1
        have hql := q3.lt
        have hks := hv3.kids
        have hm := hks.here.1
        unfold maxLen at hm
        have hsk := szTys_len t.args
        have hss := size_le_sz t
        have hrow := q3
        clear hvb hv3
        go_wp2
        go_loopw [23] (fun i wr => ∃ k : Nat, k ≤ t.args.length ∧ i = .int .i64 k ∧ (∀ j, (hj : j < t.args.length) → j < k → t.args[0]'(by omega) = t.args[j]) ∧ Below w3.heap.size w3 wr) (fun i _ => t.args.length - (intOf i).toNat)
        case atStart => exact ⟨0, Nat.zero_le _, rfl, fun j _ h => absurd h (by omega), Below.refl _ _⟩
        case round =>
          obtain ⟨k, hk', rfl, hall, hb⟩ := hrel
          have HA := Lib.hid hall
          clear hall
          have hbw := hb3'.trans (hb.mono hb3'.size)
          by_cases hlt : k < t.args.length
          · have h0 : 0 < t.args.length := by omega
            have i0 : (0 : Int) < (t.args.length : Int) := by omega
            obtain ⟨g, M, mc, C, cc, hA1, hgl, e0, e1, e2, hT⟩ := (hks.up hb).elem k hlt
            obtain ⟨g', M', mc', C', cc', hA2, hgl', y0, y1, y2, hT'⟩ := (hks.up hb).elem 0 h0
            rw [hA1] at hA2
            cases hA2
            subst hA1
            have hpt := szTy_part t.args k hlt
            have hps := size_le_sz t.args[k]
            have hbx := (Below.refl wr.heap.size wr).alloc (Nat.le_refl _) (.cells #[.int .i64 t.args[k].kind, .slice M t.args[k].labels.length mc, .slice C t.args[k].args.length cc] 27)
            have hab := Whole1.new wr 27 #[.int .i64 t.args[k].kind, .slice M t.args[k].labels.length mc, .slice C t.args[k].args.length cc]
            have hqx := (q3.below hb hql).below hbx (Nat.lt_of_lt_of_le hql hb.size)
            have HTX := Lib.hid (hT.up hbx)
            have HTY := Lib.hid (hT'.up hbx)
            have y0x := (hbx.cell (p := ⟨g, 0, none⟩) hgl).trans y0
            have y1x := (hbx.cell (p := ⟨g, 1, none⟩) hgl).trans y1
            have y2x := (hbx.cell (p := ⟨g, 2, none⟩) hgl).trans y2
            have HBX := Lib.hid (hb.trans (hbx.mono hb.size))
            clear hT hT' hbx y0 y1 y2 hb hbw
            go_upto_region 7 with fail
            generalize wr.alloc (.cells #[.int .i64 t.args[k].kind, .slice M t.args[k].labels.length mc, .slice C t.args[k].args.length cc] 27) = wx at *
            have k0 : wx.cell? ⟨wr.heap.size, 0, none⟩ = some (.int .i64 t.args[k].kind) := hab.cell 0
            have k1 : wx.cell? ⟨wr.heap.size, 1, none⟩ = some (.slice M t.args[k].labels.length mc) := hab.cell 1
            have k2 : wx.cell? ⟨wr.heap.size, 2, none⟩ = some (.slice C t.args[k].args.length cc) := hab.cell 2
            have k3 : wx.cell? ⟨w1.heap.size, 1, none⟩ = some (.slice (some ⟨g, 0, none⟩) t.args.length ac) := hqx.cell 1
            clear e0 e1 e2
            refine wp_region_still_tail 5 (by kernel_rfl) (by kernel_rfl) ?_
            simp only [List.take_succ_cons, List.take_zero, List.drop_succ_cons, List.drop_zero]
            repeat still_step
            refine wpStill_nil ?_
            change wpList _ _ _ _ _ wx.drew
            have HTX2 := HTX.out.up (Below.refl _ _).drew
            have HTY2 := HTY.out.up (Below.refl _ _).drew
            have hbd : Below w3.heap.size w3 wx.drew := HBX.out.drew
            clear k0 k1 k2 k3 y0x y1x y2x hab hqx
            generalize wx.drew = wd at *
            have HE := Lib.hid (implEqual_any t.args[k] t.args[0] _ _ wd HTX2 HTY2 (by omega))
            clear HTX2 HTY2
            by_cases heq : t.args[k] = t.args[0]
            · have hey := eqTyB_yes heq
              rw [hey] at HE
              have HEQ := Lib.hid heq
              clear heq hey
              go_wp2_with fail
              refine HE.out.mono ?_
              rintro e w5 ⟨rfl, hb5⟩
              go_wp2
              go_roundw
              case rel =>
                refine ⟨k + 1, by omega, by go_num, fun j hj h => ?_, hbd.trans (hb5.mono hbd.size)⟩
                by_cases e : j = k
                · subst e
                  exact HEQ.out.symm
                · exact HA.out j hj (by omega)
              case measure => simp [intOf]; omega
            · have hen := eqTyB_no heq
              rw [hen] at HE
              have hr := Lib.hid (show uniformB t = false by
                have hk1 : 1 ≤ k := by
                  rcases Nat.eq_zero_or_pos k with h | h
                  · subst h
                    exact absurd rfl heq
                  · exact h
                exact uniform_no t k h0 hlt hk1 (fun e => heq e.symm))
              clear heq hen
              go_wp2_with fail
              refine HE.out.mono ?_
              rintro e w5 ⟨rfl, hb5⟩
              go_wp2
              go_ret
              exact ⟨by rw [hr.out]; rfl, hb3'.trans ((hbd.trans (hb5.mono hbd.size)).mono hb3'.size)⟩
          · have hr := Lib.hid (uniform_yes t HVB.out HKD.out fun j hj _ => HA.out j hj (by omega))
            go_wp2
            go_ret
            exact ⟨by rw [hr.out]; rfl, hbw⟩
    · have hr := Lib.hid (uniform_nonrec t (by omega))
      have ha1 := ta_sumForm_recForm
      clear p1 hv1 hval
      go_wp2
      go_ret
      exact ⟨by rw [hr.out]; rfl, hb1'.alloc hb1'.size _⟩
    · have hr := Lib.hid (uniform_nonrec t (by omega))
      have ha1 := ta_listForm_recForm
      clear p1 hv1 hval hts ht
      go_wp2
      go_ret
      exact ⟨by rw [hr.out]; rfl, hb1'.alloc hb1'.size _⟩

end Go.Proofs.YthdfidhijmcbdaaGreatDoor
