/- impl.nodesLeft, impl.IsValue. -/
import Derived.Test.YtbhhejcaggmcnaaDoorImplIsVa
import Derived.Test.YtbhhejcaggmcnaaDoorNums
import Derived.Test.YtbhhejcaggmcnaaDoorVImplSize
namespace Go.Proofs.YtbhhejcaggmcnaaDoor
set_option maxRecDepth 100000
open Go.RowKit

/-- What is left of the nodes allowed; -1, if there are too many, or one has no form. -/
def leftForm (t : Va) (a : Int) : Int := if (sizeVa t : Int) ≤ a ∧ formVa t = true then a - sizeVa t else -1
theorem leftForm_zero (t : Va) : leftForm t 0 = -1 := by
  have := sizeVa_eq t
  unfold leftForm
  rw [if_neg (by omega)]
theorem leftForm_no (t : Va) (a : Int) (h : nodeVB t.kind t.num t.name t.labels t.args.length = false) : leftForm t a = -1 := by
  unfold leftForm
  rw [if_neg]
  rintro ⟨_, h2⟩
  rw [formVa_eq, h, Bool.and_false] at h2
  cases h2
theorem leftForm_part (t : Va) (a : Int) (k : Nat) (hk : k < t.args.length) (h : leftForm t.args[k] (a - 1 - (sizeVas (t.args.take k) : Int)) < 0) : leftForm t a = -1 := by
  have h1 := sizeVas_take t.args k hk
  have h2 := sizeVas_le t.args (k + 1)
  have h3 := sizeVa_eq t
  unfold leftForm at *
  rw [if_neg]
  rintro ⟨h4, h5⟩
  rw [formVa_eq, Bool.and_eq_true] at h5
  rw [if_pos ⟨by omega, formVas_at _ h5.1 k hk⟩] at h
  omega
theorem leftForm_next (t : Va) (a : Int) (k : Nat) (hk : k < t.args.length) (h : ¬ leftForm t.args[k] (a - 1 - (sizeVas (t.args.take k) : Int)) < 0) : leftForm t.args[k] (a - 1 - (sizeVas (t.args.take k) : Int)) = a - 1 - (sizeVas (t.args.take (k + 1)) : Int) ∧ formVa t.args[k] = true := by
  have h1 := sizeVas_take t.args k hk
  unfold leftForm at *
  split at h
  · rename_i h2
    rw [if_pos h2]
    exact ⟨by omega, h2.2⟩
  · omega
theorem leftForm_yes (t : Va) (a : Int) (h0 : nodeVB t.kind t.num t.name t.labels t.args.length = true) (h1 : 0 ≤ a - 1 - (sizeVas t.args : Int)) (h2 : ∀ i, (h : i < t.args.length) → formVa t.args[i] = true) : leftForm t a = a - 1 - (sizeVas t.args : Int) := by
  have h3 := sizeVa_eq t
  unfold leftForm
  rw [if_pos ⟨by omega, by rw [formVa_eq, formVas_all _ h2, h0]; rfl⟩]
  omega

def LeftFOne (t : Va) : Prop := ∀ (V : Value) (a : Int) (w : World), VaAt w w.heap.size V t → FormsAt w → numsB t = true → szVa t ≤ 1048576 → 0 ≤ a → a ≤ 1000 → Calls Tryd.prog 63 #[V, .int .i64 a] w (IntBelow (leftForm t a) w)

set_option maxHeartbeats 4000000 in
theorem nodesLeft_of (k0 n0 : Int) (nm : ByteArray) (ls : List ByteArray) (ts : List Va) (hall : ∀ i, (h : i < ts.length) → LeftFOne ts[i]) : LeftFOne (.mk k0 n0 nm ls ts) := by
  intro V a w hv hF hnum hsz h0 h1
  have hse := szVa_eq (.mk k0 n0 nm ls ts)
  obtain ⟨hnum1, hnum2⟩ := numsB_of _ hnum
  have hv0 := hv
  have HFO := Lib.hid (fun W h hf => hasValueForm_any (.mk k0 n0 nm ls ts) V W h hf hnum1 hsz)
  have hZ := Lib.hid (leftForm_zero (.mk k0 n0 nm ls ts))
  have hNo := Lib.hid (leftForm_no (.mk k0 n0 nm ls ts) a)
  have hPa := Lib.hid (leftForm_part (.mk k0 n0 nm ls ts) a)
  have hNx := Lib.hid (leftForm_next (.mk k0 n0 nm ls ts) a)
  have hYe := Lib.hid (leftForm_yes (.mk k0 n0 nm ls ts) a)
  obtain ⟨L, lc, A, ac, rfl, _, _, _, _, ha⟩ := hv.open
  simp only [Va.kind, Va.num, Va.name, Va.labels, Va.args] at *
  have hm := ha.1
  unfold maxLen at hm
  have hsz2 : szVas ts ≤ 1048576 := by omega
  have HALL := Lib.hid hall
  have HNUM := Lib.hid hnum2
  generalize hres : leftForm (.mk k0 n0 nm ls ts) a = res at *
  obtain ⟨hb0, p0, hs0⟩ := boxes1 w 30 #[.int .i64 k0, .int .i64 n0, .string nm, .slice L ls.length lc, .slice A ts.length ac]
  have ha0 := ha.up hb0
  have hF0 := hF.below hb0
  have HV := Lib.hid (HFO.out _ (hv0.up hb0) hF0)
  have HRS := Lib.hid hres
  clear hall hv hv0 ha hse hs0 hnum hnum1 hnum2 hF HFO hres
  by_cases hz : a = 0
  · subst hz
    have hr := Lib.hid (show res = -1 from HRS.out.symm.trans hZ.out)
    go_enter Tryd.func63, Tryd.ntmps63
    go_wp2
    go_ret
    exact ⟨by rw [hr.out]; rfl, hb0⟩
  · have i0 : (a == 0) = false := by rw [beq_eq_false_iff_ne]; exact hz
    cases hnode : nodeVB k0 n0 nm ls ts.length
    · have hr := Lib.hid (show res = -1 from hNo.out hnode)
      rw [hnode] at HV
      clear hnode hz
      go_enter Tryd.func63, Tryd.ntmps63
      go_wp2_with fail
      generalize w.alloc (.cells #[.int .i64 k0, .int .i64 n0, .string nm, .slice L ls.length lc, .slice A ts.length ac] 30) = w0 at *
      refine HV.out.mono ?_
      rintro e w1 ⟨rfl, hb1⟩
      go_wp2
      go_ret
      exact ⟨by rw [hr.out]; rfl, hb0.trans (hb1.mono hb0.size)⟩
    · rw [hnode] at HV
      have HND := Lib.hid hnode
      clear hnode
      go_enter Tryd.func63, Tryd.ntmps63
      go_wp2_with fail
      generalize w.alloc (.cells #[.int .i64 k0, .int .i64 n0, .string nm, .slice L ls.length lc, .slice A ts.length ac] 30) = w0 at *
      refine HV.out.mono ?_
      rintro e w1 ⟨rfl, hb1⟩
      have hb1' := hb0.trans (hb1.mono hb0.size)
      have p1 := p0.below hb1 p0.lt
      have ha1 := ha0.up hb1
      have hF1 := hF0.below hb1
      have c4 : w1.cell? ⟨w.heap.size, 4, none⟩ = some (.slice A ts.length ac) := p1.cell 4
      clear HV ha0 hF0 p0 hb0
      go_wp2
      clear c4
      go_loopw [5, 20] (fun lf i wr => ∃ (k : Nat) (x : Int), k ≤ ts.length ∧ i = .int .i64 k ∧ lf = .int .i64 x ∧ Hid (x = a - 1 - (sizeVas (ts.take k) : Int)) ∧ 0 ≤ x ∧ x ≤ 1000 ∧ (∀ j, (hj : j < ts.length) → j < k → formVa ts[j] = true) ∧ Below w1.heap.size w1 wr) (fun _ i _ => ts.length - (intOf i).toNat)
      case atStart => exact ⟨0, a - 1, Nat.zero_le _, rfl, rfl, Lib.hid (by simp [sizeVas]), by omega, by omega, fun j _ h => absurd h (by omega), Below.refl _ _⟩
      case round =>
        obtain ⟨k, x, hk, rfl, rfl, hx, hx0, hx1, hall, hb⟩ := hrel
        have HA := Lib.hid hall
        clear hall
        have hbw := hb1'.trans (hb.mono hb1'.size)
        by_cases hlt : k < ts.length
        · obtain ⟨b, off, L1, lc1, A1, ac1, rfl, hbl, q0, q1, q2, q3, q4, ht⟩ := (ha1.below hb).elem k hlt
          have hpt := szVa_part ts k hlt
          have hbx := (Below.refl wr.heap.size wr).alloc (Nat.le_refl _) (.cells #[.int .i64 ts[k].kind, .int .i64 ts[k].num, .string ts[k].name, .slice L1 ts[k].labels.length lc1, .slice A1 ts[k].args.length ac1] 30)
          have HT := HALL.out k hlt _ x _ ((ht.more hb.size).up hbx) ((hF1.below hb).below hbx) (HNUM.out k hlt) (by omega) hx0 hx1
          by_cases hneg : leftForm ts[k] x < 0
          · have hr := Lib.hid (show res = -1 from hPa.out k hlt (by rw [← hx.out]; exact hneg))
            have HT' := Lib.hid HT
            generalize leftForm ts[k] x = y at *
            clear ht HT
            go_wp2_with fail
            refine HT'.out.mono ?_
            rintro e w3 ⟨rfl, hb3⟩
            go_wp2
            go_ret
            exact ⟨by rw [hr.out]; rfl, hbw.trans ((hbx.trans (hb3.mono (by simp))).mono hbw.size)⟩
          · have hnx := hNx.out k hlt (by rw [← hx.out]; omega)
            rw [← hx.out] at hnx
            have HT' := Lib.hid HT
            have HX := Lib.hid hnx.1
            have HK := Lib.hid hnx.2
            have hle : leftForm ts[k] x ≤ x := by unfold leftForm; split <;> omega
            clear hnx
            generalize leftForm ts[k] x = y at *
            clear ht HT
            go_wp2_with fail
            refine HT'.out.mono ?_
            rintro e w3 ⟨rfl, hb3⟩
            go_wp2
            go_roundw
            case rel =>
              refine ⟨k + 1, y, by omega, by go_num, rfl, Lib.hid HX.out, by omega, by omega, fun j hj h => ?_, hb.trans ((hbx.trans (hb3.mono (by simp))).mono hb.size)⟩
              by_cases e : j = k
              · subst e
                exact HK.out
              · exact HA.out j hj (by omega)
            case measure => simp [intOf]; omega
        · have hke : k = ts.length := by omega
          subst hke
          rw [List.take_length] at hx
          have hr := Lib.hid (show res = x by rw [hYe.out HND.out (by rw [← hx.out]; exact hx0) fun i hi => HA.out i hi hi, hx.out])
          go_wp2
          go_ret
          exact ⟨by rw [hr.out]; rfl, hbw⟩

theorem nodesLeft_any (t : Va) : LeftFOne t := by
  induction t using Va.ind with
  | h k n nm ls ts ih => exact nodesLeft_of k n nm ls ts ih

set_option maxHeartbeats 1000000 in
theorem implIsValue_any (t : Va) (v : Value) (w : World) (hv : OwnV w v t) (hF : FormsAt w) (hnum : numsB t = true) (hsz : szVa t ≤ 1048576) : Calls Tryd.prog 25 #[v] w (BoolIs (valueB t) w) := by
  have HN := Lib.hid (fun V W h hf => nodesLeft_any t V 300 W h hf hnum hsz (by omega) (by omega))
  obtain ⟨L, lc, A, ac, rfl, _⟩ := hv.open
  obtain ⟨hb0, p0, hs0⟩ := boxes1 w 30 #[.int .i64 t.kind, .int .i64 t.num, .string t.name, .slice L t.labels.length lc, .slice A t.args.length ac]
  have hv0 := hv.up hb0
  have HF := Lib.hid (HN.out _ _ hv0.here (hF.below hb0))
  clear hv hv0 hs0 p0
  by_cases h : (sizeVa t : Int) ≤ 300 ∧ formVa t = true
  · have hl : leftForm t 300 = 300 - sizeVa t := by unfold leftForm; rw [if_pos h]
    have i1 : (0 : Int) ≤ 300 - sizeVa t := by omega
    have hr := Lib.hid (show valueB t = true by unfold valueB; rw [h.2]; simp; omega)
    rw [hl] at HF
    have i2 : (300 : Int) - sizeVa t ≥ 0 := by omega
    clear h hl
    generalize (300 : Int) - (sizeVa t : Int) = x at *
    go_enter Tryd.func25, Tryd.ntmps25
    go_wp2_with fail
    refine HF.out.mono ?_
    rintro e w1 ⟨rfl, hb1⟩
    go_wp2
    go_ret
    exact ⟨by rw [hr.out]; rfl, hb0.trans (hb1.mono hb0.size)⟩
  · have hl : leftForm t 300 = -1 := by unfold leftForm; rw [if_neg h]
    have hr := Lib.hid (show valueB t = false by
      unfold valueB
      rw [Bool.and_eq_false_iff]
      by_cases h3 : formVa t = true
      · left
        rw [decide_eq_false_iff_not]
        intro h4
        exact h ⟨by omega, h3⟩
      · right
        simpa using h3)
    rw [hl] at HF
    clear h hl
    go_enter Tryd.func25, Tryd.ntmps25
    go_wp2_with fail
    refine HF.out.mono ?_
    rintro e w1 ⟨rfl, hb1⟩
    go_wp2
    go_ret
    exact ⟨by rw [hr.out]; rfl, hb0.trans (hb1.mono hb0.size)⟩

end Go.Proofs.YtbhhejcaggmcnaaDoor
