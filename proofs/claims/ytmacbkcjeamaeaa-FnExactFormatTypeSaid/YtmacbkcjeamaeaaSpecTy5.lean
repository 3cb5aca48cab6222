/- spec.IsValidType, spec.IsUniform. -/
import Derived.Test.YtmacbkcjeamaeaaSpecTy4
namespace Go.Proofs.Ytmacbkcjeamaeaa
open Go.RowKit

/-- Is it a valid type? -/
def validB (t : Ty) : Bool := decide (sizeTy t ≤ 30) && decide (depthTy t ≤ 8) && formTy t

set_option maxHeartbeats 1000000 in
theorem specValid_any (t : Ty) (v : Value) (w : World) (hv : TyAt w w.heap.size v t) (hsz : szTy t ≤ 1048576) :
    Calls Try.prog 13 #[v] w (BoolIs (validB t) w) := by
  have hv0 := hv
  have hss := size_le_sz t
  have HL := Lib.hid (fun W h => specLeft_any t v 30 W h (by omega) (by omega))
  have HD := Lib.hid (fun W h => specDepthOf_any t v W h (by omega))
  have HF := Lib.hid (fun W h => specForm_any t v W h hsz)
  obtain ⟨L, lc, A, ac, rfl, _, _, _, _⟩ := hv.open
  obtain ⟨hb0, p0, hs0⟩ := boxes1 w 27 #[.int .i64 t.kind, .slice L t.labels.length lc, .slice A t.args.length ac]
  have hv1 := hv0.up hb0
  have hpl := p0.lt
  have HZ := Lib.hid hs0
  clear hs0 hv hv0
  go_enter Try.func13, Try.ntmps13
  go_wp2_with fail
  generalize w.alloc (.cells #[.int .i64 t.kind, .slice L t.labels.length lc, .slice A t.args.length ac] 27) = w0 at *
  refine (HL.out w0 hv1).mono ?_
  rintro e w1 ⟨rfl, hb1⟩
  have hb1' := hb0.trans (hb1.mono hb0.size)
  by_cases h30 : sizeTy t ≤ 30
  · rw [show leftOf 30 (sizeTy t) = 30 - sizeTy t by unfold leftOf; rw [if_neg (by omega)]]
    have i1 : (0 : Int) ≤ 30 - sizeTy t := by omega
    have p1 := p0.below hb1 hpl
    have hv2 := hv1.up hb1
    have c0 : w1.cell? ⟨w.heap.size, 0, none⟩ = some (.int .i64 t.kind) := p1.cell 0
    have c1 : w1.cell? ⟨w.heap.size, 1, none⟩ = some (.slice L t.labels.length lc) := p1.cell 1
    have c2 : w1.cell? ⟨w.heap.size, 2, none⟩ = some (.slice A t.args.length ac) := p1.cell 2
    go_wp2_with fail
    refine (HD.out w1 hv2).mono ?_
    rintro e w2 ⟨rfl, hb2⟩
    have hb2' := hb1'.trans (hb2.mono hb1'.size)
    by_cases h8 : depthTy t ≤ 8
    · have i2 : (depthTy t : Int) ≤ 8 := by omega
      have p2 := p1.below hb2 p1.lt
      have hv3 := hv2.up hb2
      have d0 : w2.cell? ⟨w.heap.size, 0, none⟩ = some (.int .i64 t.kind) := p2.cell 0
      have d1 : w2.cell? ⟨w.heap.size, 1, none⟩ = some (.slice L t.labels.length lc) := p2.cell 1
      have d2 : w2.cell? ⟨w.heap.size, 2, none⟩ = some (.slice A t.args.length ac) := p2.cell 2
      have hr := Lib.hid (show validB t = formTy t by unfold validB; simp [h30, h8])
      clear c0 c1 c2 h30 h8
      go_wp2_with fail
      refine (HF.out w2 hv3).mono ?_
      rintro e w3 ⟨rfl, hb3⟩
      go_wp2
      go_ret
      exact ⟨by rw [hr.out]; rfl, hb2'.trans (hb3.mono hb2'.size)⟩
    · have i2 : ¬ (depthTy t : Int) ≤ 8 := by omega
      have hr := Lib.hid (show validB t = false by unfold validB; simp [h8])
      clear h30 h8
      go_wp2
      go_ret
      exact ⟨by rw [hr.out]; rfl, hb2'⟩
  · rw [show leftOf 30 (sizeTy t) = -1 by unfold leftOf; rw [if_pos (by omega)]]
    have hr := Lib.hid (show validB t = false by unfold validB; simp [h30])
    clear h30
    go_wp2
    go_ret
    exact ⟨by rw [hr.out]; rfl, hb1'⟩

/-- A valid record type of equal parts? -/
noncomputable def uniformB (t : Ty) : Bool := validB t && decide (t.kind = 3) && (match t.args with | [] => true | a :: r => r.all fun b => eqTyB a b)
theorem uniform_no (t : Ty) (k : Nat) (h0 : 0 < t.args.length) (h : k < t.args.length) (hk : 1 ≤ k) (hne : t.args[0] ≠ t.args[k]) : uniformB t = false := by
  unfold uniformB
  cases ha : t.args with
  | nil => rw [ha] at h; simp at h
  | cons a r =>
    have h' : k - 1 < r.length := by rw [ha] at h; simp at h; omega
    have e1 : t.args[0] = a := by simp [ha]
    have e2 : t.args[k] = r[k - 1] := by
      have : t.args[k]? = r[k - 1]? := by
        rw [ha]
        cases k with
        | zero => omega
        | succ k => simp
      rw [List.getElem?_eq_getElem h, List.getElem?_eq_getElem h'] at this
      exact Option.some.inj this
    rw [e1, e2] at hne
    have : (r.all fun b => eqTyB a b) = false := by
      rw [List.all_eq_false]
      exact ⟨_, List.getElem_mem h', by rw [eqTyB_no hne]; simp⟩
    simp [this]
theorem uniform_yes (t : Ty) (hv : validB t = true) (hk : t.kind = 3) (h : ∀ k, (hk : k < t.args.length) → 1 ≤ k → t.args[0]'(by omega) = t.args[k]) : uniformB t = true := by
  unfold uniformB
  rw [hv]
  cases ha : t.args with
  | nil => simp [hk]
  | cons a r =>
    have : (r.all fun b => eqTyB a b) = true := by
      rw [List.all_eq_true]
      intro b hb
      obtain ⟨i, hi, rfl⟩ := List.getElem_of_mem hb
      have := h (i + 1) (by rw [ha]; simpa using hi) (by omega)
      apply eqTyB_yes
      simpa [ha] using this
    simp [hk, this]

set_option maxHeartbeats 4000000 in
theorem specUniform_any (t : Ty) (v : Value) (w : World) (hv : TyAt w w.heap.size v t) (hsz : szTy t ≤ 1048576) :
    Calls Try.prog 32 #[v] w (BoolIs (uniformB t) w) := by
  have hv0 := hv
  have hval := Lib.hid (fun W h => specValid_any t v W h hsz)
  obtain ⟨L, lc, A, ac, rfl, _, _, _, ha⟩ := hv.open
  have hm := ha.1
  unfold maxLen at hm
  obtain ⟨hb0, p0, hs0⟩ := boxes1 w 27 #[.int .i64 t.kind, .slice L t.labels.length lc, .slice A t.args.length ac]
  have hv1 := hv0.up hb0
  have ha0 := ha.up hb0
  have hpl := p0.lt
  have HZ := Lib.hid hs0
  clear hs0 hv hv0 ha
  go_enter Try.func32, Try.ntmps32
  go_wp2_with fail
  generalize w.alloc (.cells #[.int .i64 t.kind, .slice L t.labels.length lc, .slice A t.args.length ac] 27) = w0 at *
  refine (hval.out w0 hv1).mono ?_
  rintro e w1 ⟨rfl, hb1⟩
  have hb1' := hb0.trans (hb1.mono hb0.size)
  have p1 := p0.below hb1 hpl
  have ha1 := ha0.up hb1
  have hpl1 := p1.lt
  cases hvb : validB t
  · have hr := Lib.hid (show uniformB t = false by unfold uniformB; rw [hvb]; rfl)
    clear hvb
    go_wp2
    go_ret
    exact ⟨by rw [hr.out]; rfl, hb1'⟩
  · have HV := Lib.hid hvb
    clear hvb
    have c0 : w1.cell? ⟨w.heap.size, 0, none⟩ = some (.int .i64 t.kind) := p1.cell 0
    by_cases hk : t.kind = 3
    · have hk3 : (t.kind != 3) = false := by rw [bne_eq_false_iff_eq]; exact hk
      have HK := Lib.hid hk
      clear hk
      go_wp2
      clear c0 hk3
      go_loopw [3] (fun i wr => ∃ k : Nat, 1 ≤ k ∧ k ≤ t.args.length + 1 ∧ i = .int .i64 k ∧ (∀ j, (h : j < t.args.length) → 1 ≤ j → j < k → t.args[0]'(by omega) = t.args[j]) ∧ Below w1.heap.size w1 wr) (fun i _ => t.args.length - (intOf i).toNat)
      case atStart => exact ⟨1, by omega, by omega, rfl, fun j _ h1 h2 => absurd h2 (by omega), Below.refl _ _⟩
      case round =>
        obtain ⟨k, hk1, hk, rfl, hall, hb⟩ := hrel
        have HA := Lib.hid hall
        clear hall
        have c2 : wr.cell? ⟨w.heap.size, 2, none⟩ = some (.slice A t.args.length ac) := (p1.below hb hpl1).cell 2
        by_cases hlt : k < t.args.length
        · obtain ⟨b, off, M, mc, C, cc, rfl, hbl, q0, q1, q2, _, _, _, _, ht⟩ := (ha1.below hb).elem k hlt
          have h00 : 0 < t.args.length := by omega
          obtain ⟨b', off', M', mc', C', cc', e', hbl', r0, r1, r2, _, _, _, _, ht'⟩ := (ha1.below hb).elem 0 h00
          cases e'
          rw [Nat.zero_mul, Nat.add_zero] at r0 r1 r2
          have hbs := hb.size
          have hbw : b < wr.heap.size := by omega
          have hpw : w.heap.size < wr.heap.size := by omega
          have HT := specEqual_any t.args[0] t.args[k] _ _ wr.drew ((ht'.more hbs).up (Below.refl _ _).drew) ((ht.more hbs).up (Below.refl _ _).drew)
          by_cases hek : t.args[0] = t.args[k]
          · rw [eqTyB_yes hek] at HT
            have HT' := Lib.hid HT
            have HE := Lib.hid hek
            clear ht ht' HT hek
            go_wp2
            go_region_held3 (fun w' => w'.cell? ⟨w.heap.size, 2, none⟩ = some (.slice (some ⟨b, off, none⟩) t.args.length ac) ∧ w'.cell? ⟨b, off + k * 3, none⟩ = some (.int .i64 t.args[k].kind) ∧ w'.cell? ⟨b, off + k * 3 + 1, none⟩ = some (.slice M t.args[k].labels.length mc) ∧ w'.cell? ⟨b, off + k * 3 + 2, none⟩ = some (.slice C t.args[k].args.length cc) ∧ w'.cell? ⟨b, off, none⟩ = some (.int .i64 t.args[0].kind) ∧ w'.cell? ⟨b, off + 1, none⟩ = some (.slice M' t.args[0].labels.length mc') ∧ w'.cell? ⟨b, off + 2, none⟩ = some (.slice C' t.args[0].args.length cc') ∧ Below wr.heap.size wr w') ((first | exact ⟨c2, q0, q1, q2, r0, r1, r2, (Below.refl _ _).drew⟩ | exact ⟨y0, k0, k1, k2, k0', k1', k2', k6⟩))
              (first | (go_at_call 30; refine HT'.out.mono ?_; rintro e w' ⟨rfl, hb7⟩; have k6 := (Below.refl wr.heap.size wr).drew.trans hb7; have y0 := (k6.cell (p := ⟨w.heap.size, 2, none⟩) hpw).trans c2; have k0 := (k6.cell (p := ⟨b, off + k * 3, none⟩) hbw).trans q0; have k1 := (k6.cell (p := ⟨b, off + k * 3 + 1, none⟩) hbw).trans q1; have k2 := (k6.cell (p := ⟨b, off + k * 3 + 2, none⟩) hbw).trans q2; have k0' := (k6.cell (p := ⟨b, off, none⟩) hbw).trans r0; have k1' := (k6.cell (p := ⟨b, off + 1, none⟩) hbw).trans r1; have k2' := (k6.cell (p := ⟨b, off + 2, none⟩) hbw).trans r2))
            go_wp2
            go_roundw
            case rel =>
              refine ⟨k + 1, by omega, by omega, by go_num, fun j h h1 h2 => ?_, hb.trans (k6.mono hbs)⟩
              by_cases e : j = k
              · subst e
                exact HE.out
              · exact HA.out j h h1 (by omega)
            case measure => simp [intOf]; omega
          · have hr := Lib.hid (uniform_no t k h00 hlt hk1 hek)
            rw [eqTyB_no hek] at HT
            have HT' := Lib.hid HT
            clear ht ht' HT hek
            go_wp2
            go_region_held3 (fun w' => w'.cell? ⟨w.heap.size, 2, none⟩ = some (.slice (some ⟨b, off, none⟩) t.args.length ac) ∧ w'.cell? ⟨b, off + k * 3, none⟩ = some (.int .i64 t.args[k].kind) ∧ w'.cell? ⟨b, off + k * 3 + 1, none⟩ = some (.slice M t.args[k].labels.length mc) ∧ w'.cell? ⟨b, off + k * 3 + 2, none⟩ = some (.slice C t.args[k].args.length cc) ∧ w'.cell? ⟨b, off, none⟩ = some (.int .i64 t.args[0].kind) ∧ w'.cell? ⟨b, off + 1, none⟩ = some (.slice M' t.args[0].labels.length mc') ∧ w'.cell? ⟨b, off + 2, none⟩ = some (.slice C' t.args[0].args.length cc') ∧ Below wr.heap.size wr w') ((first | exact ⟨c2, q0, q1, q2, r0, r1, r2, (Below.refl _ _).drew⟩ | exact ⟨y0, k0, k1, k2, k0', k1', k2', k6⟩))
              (first | (go_at_call 30; refine HT'.out.mono ?_; rintro e w' ⟨rfl, hb7⟩; have k6 := (Below.refl wr.heap.size wr).drew.trans hb7; have y0 := (k6.cell (p := ⟨w.heap.size, 2, none⟩) hpw).trans c2; have k0 := (k6.cell (p := ⟨b, off + k * 3, none⟩) hbw).trans q0; have k1 := (k6.cell (p := ⟨b, off + k * 3 + 1, none⟩) hbw).trans q1; have k2 := (k6.cell (p := ⟨b, off + k * 3 + 2, none⟩) hbw).trans q2; have k0' := (k6.cell (p := ⟨b, off, none⟩) hbw).trans r0; have k1' := (k6.cell (p := ⟨b, off + 1, none⟩) hbw).trans r1; have k2' := (k6.cell (p := ⟨b, off + 2, none⟩) hbw).trans r2))
            go_wp2
            go_ret
            exact ⟨by rw [hr.out]; rfl, hb1'.trans ((hb.trans (k6.mono hbs)).mono hb1'.size)⟩
        · have hr := Lib.hid (uniform_yes t HV.out HK.out fun j h h1 => HA.out j h h1 (by omega))
          go_wp2
          go_ret
          exact ⟨by rw [hr.out]; rfl, hb1'.trans (hb.mono hb1'.size)⟩
    · have hk3 : (t.kind != 3) = true := by rw [bne_iff_ne]; exact hk
      have hr := Lib.hid (show uniformB t = false by unfold uniformB; simp [hk])
      clear hk
      go_wp2
      go_ret
      exact ⟨by rw [hr.out]; rfl, hb1'⟩

end Go.Proofs.Ytmacbkcjeamaeaa
