/- spec.EqualOptic. -/
import Derived.Test.YtceclhndagoddaaSpecOt
import Derived.Test.YtceclhndagoddaaSpecTy5
import Derived.Deep.RegionHeld3
namespace Go.Proofs.Ytceclhndagoddaa
open Go.RowKit

/-- The same tree? -/
noncomputable def eqOtB (a b : Ot) : Bool := @decide (a = b) (Classical.propDecidable _)
theorem eqOtB_yes {a b : Ot} (h : a = b) : eqOtB a b = true := by unfold eqOtB; simp [h]
theorem eqOtB_no {a b : Ot} (h : a ≠ b) : eqOtB a b = false := by unfold eqOtB; simp [h]
theorem Ot.ext {a b : Ot} (h1 : a.kind = b.kind) (h2 : a.num = b.num) (h3 : a.name = b.name) (h5 : a.args = b.args) : a = b := by
  cases a; cases b
  simp only [Ot.kind, Ot.num, Ot.name, Ot.args] at h1 h2 h3 h5
  rw [h1, h2, h3, h5]

def EqualOOne (f : Nat) (t : Ot) : Prop := ∀ (t' : Ot) (v v' : Value) (w : World), OtAt w w.heap.size v t → OtAt w w.heap.size v' t' → Calls Try.prog f #[v, v'] w (BoolIs (eqOtB t t') w)

set_option maxHeartbeats 4000000 in
theorem specEqualO_of (t : Ot) (hall : ∀ i, (h : i < t.args.length) → EqualOOne 18 t.args[i]) : EqualOOne 18 t := by
  intro t' v v' w hv hv'
  obtain ⟨A, ac, rfl, _, ha⟩ := hv.open
  obtain ⟨A', ac', rfl, _, ha'⟩ := hv'.open
  have HALL := Lib.hid hall
  have hm := ha.1
  unfold maxLen at hm
  clear hall hv hv'
  obtain ⟨hbA, p1, q1, hs0⟩ := boxes2 w 26 26 #[.int .i64 t.kind, .string t.name, .int .i64 t.num, .slice A t.args.length ac] #[.int .i64 t'.kind, .string t'.name, .int .i64 t'.num, .slice A' t'.args.length ac']
  by_cases hk : t.kind = t'.kind
  · have hkk : (t.kind != t'.kind) = false := by rw [bne_eq_false_iff_eq]; exact hk
    have HK := Lib.hid hk
    clear hk
    by_cases hm2 : t.num = t'.num
    · have hmm : (t.num != t'.num) = false := by rw [bne_eq_false_iff_eq]; exact hm2
      have HM := Lib.hid hm2
      clear hm2
      by_cases he2 : t.name = t'.name
      · have hee : (t.name.toList != t'.name.toList) = false := by rw [bne_eq_false_iff_eq, he2]
        have hee2 : (t.name.toList == t'.name.toList) = true := by rw [beq_iff_eq, he2]
        have HE2 := Lib.hid he2
        clear he2
        have ha1 := ha.up hbA
        have ha1' := ha'.up hbA
        by_cases hlen : t.args.length = t'.args.length
        · have hneq : ((t.args.length : Int) != (t'.args.length : Int)) = false := by rw [bne_eq_false_iff_eq]; omega
          have HLEN := Lib.hid hlen
          have hlen1 : t.args.length ≤ t'.args.length := by omega
          clear hlen
          go_enter Try.func18, Try.ntmps18
          go_wp2
          generalize (w.alloc (.cells #[.int .i64 t.kind, .string t.name, .int .i64 t.num, .slice A t.args.length ac] 26)).alloc (.cells #[.int .i64 t'.kind, .string t'.name, .int .i64 t'.num, .slice A' t'.args.length ac'] 26) = w1 at *
          have HZ := Lib.hid hs0
          have hpl : w.heap.size < w1.heap.size := by have := HZ.out; omega
          have hql : w.heap.size + 1 < w1.heap.size := by have := HZ.out; omega
          clear hneq hs0
          go_loopw [5] (fun i wr => ∃ k : Nat, k ≤ t.args.length ∧ i = .int .i64 k ∧ (∀ j, (h1 : j < t.args.length) → (h2 : j < t'.args.length) → j < k → t.args[j] = t'.args[j]) ∧ Below w1.heap.size w1 wr) (fun i _ => t.args.length - (intOf i).toNat)
          case atStart => exact ⟨0, Nat.zero_le _, rfl, fun j _ _ h => absurd h (by omega), Below.refl _ _⟩
          case round =>
            obtain ⟨k, hk, rfl, hall, hb⟩ := hrel
            have HA := Lib.hid hall
            clear hall
            have c2 : wr.cell? ⟨w.heap.size, 3, none⟩ = some (.slice A t.args.length ac) := (p1.below hb hpl).cell 3
            have c2' : wr.cell? ⟨w.heap.size + 1, 3, none⟩ = some (.slice A' t'.args.length ac') := (q1.below hb hql).cell 3
            by_cases hlt : k < t.args.length
            · obtain ⟨b, off, C, cc, rfl, hbl, e0, e1, e2, e3, ht⟩ := (ha1.below hb).elem k hlt
              obtain ⟨b', off', C', cc', rfl, hbl', f0, f1, f2, f3, ht'⟩ := (ha1'.below hb).elem k (by omega)
              have hbs := hb.size
              have hbw : b < wr.heap.size := by omega
              have hbw' : b' < wr.heap.size := by omega
              have hpw : w.heap.size < wr.heap.size := by omega
              have hqw : w.heap.size + 1 < wr.heap.size := by omega
              have HT := HALL.out k hlt (t'.args[k]'(by omega)) _ _ wr.drew ((ht.more hbs).up (Below.refl _ _).drew) ((ht'.more hbs).up (Below.refl _ _).drew)
              have hlt' : k < t'.args.length := by omega
              by_cases hek : t.args[k] = t'.args[k]
              · rw [eqOtB_yes hek] at HT
                have HT' := Lib.hid HT
                have HE := Lib.hid hek
                clear ht ht' HT hek
                go_wp2
                go_region_held3 (fun w' => w'.cell? ⟨w.heap.size, 3, none⟩ = some (.slice (some ⟨b, off, none⟩) t.args.length ac) ∧ w'.cell? ⟨w.heap.size + 1, 3, none⟩ = some (.slice (some ⟨b', off', none⟩) t'.args.length ac') ∧ w'.cell? ⟨b, off + k * 4, none⟩ = some (.int .i64 t.args[k].kind) ∧ w'.cell? ⟨b, off + k * 4 + 2, none⟩ = some (.int .i64 t.args[k].num) ∧ w'.cell? ⟨b, off + k * 4 + 1, none⟩ = some (.string t.args[k].name) ∧ w'.cell? ⟨b, off + k * 4 + 3, none⟩ = some (.slice C t.args[k].args.length cc) ∧ w'.cell? ⟨b', off' + k * 4, none⟩ = some (.int .i64 (t'.args[k]'hlt').kind) ∧ w'.cell? ⟨b', off' + k * 4 + 2, none⟩ = some (.int .i64 (t'.args[k]'hlt').num) ∧ w'.cell? ⟨b', off' + k * 4 + 1, none⟩ = some (.string (t'.args[k]'hlt').name) ∧ w'.cell? ⟨b', off' + k * 4 + 3, none⟩ = some (.slice C' (t'.args[k]'hlt').args.length cc') ∧ Below wr.heap.size wr w') ((first | exact ⟨c2, c2', e0, e1, e2, e3, f0, f1, f2, f3, (Below.refl _ _).drew⟩ | exact ⟨y0, y1, k0, k1, k2, k3, l0, l1, l2, l3, k6⟩))
                    (first | (go_at_call 18; refine HT'.out.mono ?_; rintro e w' ⟨rfl, hb1⟩; have k6 := (Below.refl wr.heap.size wr).drew.trans hb1; have y0 := (k6.cell (p := ⟨w.heap.size, 3, none⟩) hpw).trans c2; have y1 := (k6.cell (p := ⟨w.heap.size + 1, 3, none⟩) hqw).trans c2'; have k0 := (k6.cell (p := ⟨b, off + k * 4, none⟩) hbw).trans e0; have k1 := (k6.cell (p := ⟨b, off + k * 4 + 2, none⟩) hbw).trans e1; have k2 := (k6.cell (p := ⟨b, off + k * 4 + 1, none⟩) hbw).trans e2; have k3 := (k6.cell (p := ⟨b, off + k * 4 + 3, none⟩) hbw).trans e3; have l0 := (k6.cell (p := ⟨b', off' + k * 4, none⟩) hbw').trans f0; have l1 := (k6.cell (p := ⟨b', off' + k * 4 + 2, none⟩) hbw').trans f1; have l2 := (k6.cell (p := ⟨b', off' + k * 4 + 1, none⟩) hbw').trans f2; have l3 := (k6.cell (p := ⟨b', off' + k * 4 + 3, none⟩) hbw').trans f3))
                go_wp2
                go_roundw
                case rel =>
                  refine ⟨k + 1, by omega, by go_num, fun j h1 h2 h => ?_, hb.trans (k6.mono hbs)⟩
                  by_cases e : j = k
                  · subst e
                    exact HE.out
                  · exact HA.out j h1 h2 (by omega)
                case measure => simp [intOf]; omega
              · have hr := Lib.hid (show eqOtB t t' = false from eqOtB_no fun e => hek (by subst e; rfl))
                rw [eqOtB_no hek] at HT
                have HT' := Lib.hid HT
                clear ht ht' HT hek
                go_wp2
                go_region_held3 (fun w' => w'.cell? ⟨w.heap.size, 3, none⟩ = some (.slice (some ⟨b, off, none⟩) t.args.length ac) ∧ w'.cell? ⟨w.heap.size + 1, 3, none⟩ = some (.slice (some ⟨b', off', none⟩) t'.args.length ac') ∧ w'.cell? ⟨b, off + k * 4, none⟩ = some (.int .i64 t.args[k].kind) ∧ w'.cell? ⟨b, off + k * 4 + 2, none⟩ = some (.int .i64 t.args[k].num) ∧ w'.cell? ⟨b, off + k * 4 + 1, none⟩ = some (.string t.args[k].name) ∧ w'.cell? ⟨b, off + k * 4 + 3, none⟩ = some (.slice C t.args[k].args.length cc) ∧ w'.cell? ⟨b', off' + k * 4, none⟩ = some (.int .i64 (t'.args[k]'hlt').kind) ∧ w'.cell? ⟨b', off' + k * 4 + 2, none⟩ = some (.int .i64 (t'.args[k]'hlt').num) ∧ w'.cell? ⟨b', off' + k * 4 + 1, none⟩ = some (.string (t'.args[k]'hlt').name) ∧ w'.cell? ⟨b', off' + k * 4 + 3, none⟩ = some (.slice C' (t'.args[k]'hlt').args.length cc') ∧ Below wr.heap.size wr w') ((first | exact ⟨c2, c2', e0, e1, e2, e3, f0, f1, f2, f3, (Below.refl _ _).drew⟩ | exact ⟨y0, y1, k0, k1, k2, k3, l0, l1, l2, l3, k6⟩))
                    (first | (go_at_call 18; refine HT'.out.mono ?_; rintro e w' ⟨rfl, hb1⟩; have k6 := (Below.refl wr.heap.size wr).drew.trans hb1; have y0 := (k6.cell (p := ⟨w.heap.size, 3, none⟩) hpw).trans c2; have y1 := (k6.cell (p := ⟨w.heap.size + 1, 3, none⟩) hqw).trans c2'; have k0 := (k6.cell (p := ⟨b, off + k * 4, none⟩) hbw).trans e0; have k1 := (k6.cell (p := ⟨b, off + k * 4 + 2, none⟩) hbw).trans e1; have k2 := (k6.cell (p := ⟨b, off + k * 4 + 1, none⟩) hbw).trans e2; have k3 := (k6.cell (p := ⟨b, off + k * 4 + 3, none⟩) hbw).trans e3; have l0 := (k6.cell (p := ⟨b', off' + k * 4, none⟩) hbw').trans f0; have l1 := (k6.cell (p := ⟨b', off' + k * 4 + 2, none⟩) hbw').trans f1; have l2 := (k6.cell (p := ⟨b', off' + k * 4 + 1, none⟩) hbw').trans f2; have l3 := (k6.cell (p := ⟨b', off' + k * 4 + 3, none⟩) hbw').trans f3))
                go_wp2
                go_ret
                exact ⟨by rw [hr.out]; rfl, hbA.trans ((hb.trans (k6.mono hbs)).mono hbA.size)⟩
            · have hr := Lib.hid (show eqOtB t t' = true from eqOtB_yes (Ot.ext HK.out HM.out HE2.out (List.ext_getElem HLEN.out fun j h1 h2 => HA.out j h1 h2 (by omega))))
              go_wp2
              go_ret
              exact ⟨by rw [hr.out]; rfl, hbA.trans (hb.mono hbA.size)⟩
        · have hneq : ((t.args.length : Int) != (t'.args.length : Int)) = true := by rw [bne_iff_ne]; omega
          have hr := Lib.hid (show eqOtB t t' = false from eqOtB_no fun e => hlen (by rw [e]))
          clear hlen
          go_enter Try.func18, Try.ntmps18
          go_wp2
          go_ret
          exact ⟨by rw [hr.out]; rfl, hbA⟩
      · have hne2 : t.name.toList ≠ t'.name.toList := by
          rw [ByteArray.toList_eq, ByteArray.toList_eq]
          exact fun e => he2 (WideShapes.bytes_inj e)
        have hee : (t.name.toList != t'.name.toList) = true := by rw [bne_iff_ne]; exact hne2
        have hee2 : (t.name.toList == t'.name.toList) = false := by rw [beq_eq_false_iff_ne]; exact hne2
        have hr := Lib.hid (show eqOtB t t' = false from eqOtB_no fun e => he2 (by rw [e]))
        clear he2 hne2
        go_enter Try.func18, Try.ntmps18
        go_wp2
        go_ret
        exact ⟨by rw [hr.out]; rfl, hbA⟩
    · have hmm : (t.num != t'.num) = true := by rw [bne_iff_ne]; exact hm2
      have hr := Lib.hid (show eqOtB t t' = false from eqOtB_no fun e => hm2 (by rw [e]))
      clear hm2
      go_enter Try.func18, Try.ntmps18
      by_cases he2 : t.name = t'.name
      · have hee2 : (t.name.toList == t'.name.toList) = true := by rw [beq_iff_eq, he2]
        have hee : (t.name.toList != t'.name.toList) = false := by rw [bne_eq_false_iff_eq, he2]
        clear he2
        go_wp2
        go_ret
        exact ⟨by rw [hr.out]; rfl, hbA⟩
      · have hne2 : t.name.toList ≠ t'.name.toList := by
          rw [ByteArray.toList_eq, ByteArray.toList_eq]
          exact fun e => he2 (WideShapes.bytes_inj e)
        have hee : (t.name.toList != t'.name.toList) = true := by rw [bne_iff_ne]; exact hne2
        have hee2 : (t.name.toList == t'.name.toList) = false := by rw [beq_eq_false_iff_ne]; exact hne2
        clear he2 hne2
        go_wp2
        go_ret
        exact ⟨by rw [hr.out]; rfl, hbA⟩
  · have hkk : (t.kind != t'.kind) = true := by rw [bne_iff_ne]; exact hk
    have hr := Lib.hid (show eqOtB t t' = false from eqOtB_no fun e => hk (by rw [e]))
    clear hk
    go_enter Try.func18, Try.ntmps18
    go_wp2
    go_ret
    exact ⟨by rw [hr.out]; rfl, hbA⟩

theorem specEqualO_any (t : Ot) : EqualOOne 18 t := by
  induction t using Ot.ind with
  | h k n nm ts ih => exact specEqualO_of (.mk k n nm ts) ih

end Go.Proofs.Ytceclhndagoddaa
