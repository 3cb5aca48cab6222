/- spec.l3Texts, spec.EqualType. -/
import Derived.Test.YtmacbkcjeamaeaaSpecTy3
import Derived.Test.YtmacbkcjeamaeaaEqTy
import Derived.Deep.RegionHeld3
namespace Go.Proofs.Ytmacbkcjeamaeaa
open Go.RowKit

/-- The same strings? -/
def textsB (a b : List ByteArray) : Bool := decide (a = b)
theorem textsB_len (a b : List ByteArray) (h : a.length ≠ b.length) : textsB a b = false := by
  unfold textsB
  simp
  exact fun e => h (by rw [e])
theorem textsB_no (a b : List ByteArray) (k : Nat) (h1 : k < a.length) (h2 : k < b.length) (h : a[k] ≠ b[k]) : textsB a b = false := by
  unfold textsB
  simp
  intro e
  subst e
  exact h rfl
theorem textsB_yes (a b : List ByteArray) (hl : a.length = b.length) (h : ∀ k, (h1 : k < a.length) → (h2 : k < b.length) → a[k] = b[k]) : textsB a b = true := by
  unfold textsB
  simp
  exact List.ext_getElem hl h

set_option maxHeartbeats 1000000 in
theorem specTexts_any (A A' : Option Addr) (c c' : Nat) (ss ss' : List ByteArray) (w : World) (hA : StrsAt w w.heap.size A ss) (hA' : StrsAt w w.heap.size A' ss') (hn : ss.length ≤ maxLen) :
    Calls Try.prog 66 #[.slice A ss.length c, .slice A' ss'.length c'] w (BoolDrew (textsB ss ss') w) := by
  unfold maxLen at hn
  by_cases hl : ss.length = ss'.length
  · have hneq : ((ss.length : Int) != (ss'.length : Int)) = false := by rw [bne_eq_false_iff_eq]; omega
    have HL := Lib.hid hl
    have hl1 : ss.length ≤ ss'.length := by omega
    clear hl
    go_enter Try.func66, Try.ntmps66
    go_wp2
    go_loopw [5] (fun i wr => ∃ k : Nat, k ≤ ss.length ∧ i = .int .i64 k ∧ (∀ j, (h1 : j < ss.length) → (h2 : j < ss'.length) → j < k → ss[j] = ss'[j]) ∧ ∃ n, wr = w.drewN n) (fun i _ => ss.length - (intOf i).toNat)
    case atStart => exact ⟨0, Nat.zero_le _, rfl, fun j _ _ h => absurd h (by omega), 0, rfl⟩
    case round =>
      obtain ⟨k, hk, rfl, hall, n, rfl⟩ := hrel
      have HA := Lib.hid hall
      clear hall hneq
      by_cases hlt : k < ss.length
      · obtain ⟨b, off, rfl, hbl, hcell⟩ := hA k hlt
        obtain ⟨b', off', rfl, hbl', hcell'⟩ := hA' k (by omega)
        by_cases he : ss[k] = ss'[k]
        · have hq : (ss[k].toList != ss'[k].toList) = false := by rw [bne_eq_false_iff_eq, he]
          have hq2 : (ss[k].toList == ss'[k].toList) = true := by rw [beq_iff_eq, he]
          have HE := Lib.hid he
          clear he
          go_wp2
          go_quiet (fail)
          go_wp2
          go_roundw
          case rel =>
            refine ⟨k + 1, by omega, by go_num, fun j h1 h2 h => ?_, _, rfl⟩
            by_cases e : j = k
            · subst e
              exact HE.out
            · exact HA.out j h1 h2 (by omega)
          case measure => simp [intOf]; omega
        · have hne : ss[k].toList ≠ ss'[k].toList := by
            rw [ByteArray.toList_eq, ByteArray.toList_eq]
            exact fun e => he (WideShapes.bytes_inj e)
          have hq : (ss[k].toList != ss'[k].toList) = true := by rw [bne_iff_ne]; exact hne
          have hq2 : (ss[k].toList == ss'[k].toList) = false := by rw [beq_eq_false_iff_ne]; exact hne
          have hr := Lib.hid (textsB_no ss ss' k hlt (by omega) he)
          clear he hne
          go_wp2
          go_quiet (fail)
          go_wp2
          go_ret
          exact ⟨by rw [hr.out]; rfl, _, World.drewN_drewN _ _ _⟩
      · have hr := Lib.hid (textsB_yes ss ss' HL.out fun j h1 h2 => HA.out j h1 h2 (by omega))
        go_wp2
        go_ret
        exact ⟨by rw [hr.out]; rfl, n, rfl⟩
  · have hneq : ((ss.length : Int) != (ss'.length : Int)) = true := by rw [bne_iff_ne]; omega
    have hr := Lib.hid (textsB_len ss ss' hl)
    clear hl
    go_enter Try.func66, Try.ntmps66
    go_wp2
    go_ret
    exact ⟨by rw [hr.out]; rfl, 0, rfl⟩

/-- The same tree? -/
noncomputable def eqTyB (a b : Ty) : Bool := @decide (a = b) (Classical.propDecidable _)
theorem eqTyB_yes {a b : Ty} (h : a = b) : eqTyB a b = true := by unfold eqTyB; simp [h]
theorem eqTyB_no {a b : Ty} (h : a ≠ b) : eqTyB a b = false := by unfold eqTyB; simp [h]
theorem Ty.ext {a b : Ty} (h1 : a.kind = b.kind) (h2 : a.labels = b.labels) (h3 : a.args = b.args) : a = b := by
  cases a; cases b
  simp only [Ty.kind, Ty.labels, Ty.args] at h1 h2 h3
  rw [h1, h2, h3]

def EqualOne (f : Nat) (t : Ty) : Prop := ∀ (t' : Ty) (v v' : Value) (w : World), TyAt w w.heap.size v t → TyAt w w.heap.size v' t' → Calls Try.prog f #[v, v'] w (BoolIs (eqTyB t t') w)

set_option maxHeartbeats 4000000 in
theorem specEqual_of (t : Ty) (hall : ∀ i, (h : i < t.args.length) → EqualOne 30 t.args[i]) : EqualOne 30 t := by
  intro t' v v' w hv hv'
  obtain ⟨L, lc, A, ac, rfl, hn, hz, hl, ha⟩ := hv.open
  obtain ⟨L', lc', A', ac', rfl, hn', hz', hl', ha'⟩ := hv'.open
  have HALL := Lib.hid hall
  have HN := Lib.hid hn
  have hm := ha.1
  unfold maxLen at hm
  clear hz hz' hn hn' hall hv hv'
  obtain ⟨hb0, p0, q0, hs0⟩ := boxes2 w 27 27 #[.int .i64 t.kind, .slice L t.labels.length lc, .slice A t.args.length ac] #[.int .i64 t'.kind, .slice L' t'.labels.length lc', .slice A' t'.args.length ac']
  by_cases hk : t.kind = t'.kind
  · have hkk : (t.kind != t'.kind) = false := by rw [bne_eq_false_iff_eq]; exact hk
    have HK := Lib.hid hk
    clear hk
    go_enter Try.func30, Try.ntmps30
    go_wp2_with fail
    generalize (w.alloc (.cells #[.int .i64 t.kind, .slice L t.labels.length lc, .slice A t.args.length ac] 27)).alloc (.cells #[.int .i64 t'.kind, .slice L' t'.labels.length lc', .slice A' t'.args.length ac'] 27) = w0 at *
    have HZ := Lib.hid hs0
    clear hs0
    refine (specTexts_any L L' lc lc' t.labels t'.labels w0 (hl.up' hb0) (hl'.up' hb0) HN.out).mono ?_
    rintro e w1 ⟨rfl, n1, rfl⟩
    have p1 := p0.drewN n1
    have q1 := q0.drewN n1
    have hb1 := hb0.trans ((drewN_below w0 n1).mono hb0.size)
    have hsz1 : (w0.drewN n1).heap.size = w0.heap.size := rfl
    have HZ1 := Lib.hid hsz1
    clear p0 q0 hsz1
    generalize w0.drewN n1 = w1 at *
    have hbA := hb1
    have ha1 := ha.up hb1
    have ha1' := ha'.up hb1
    have hpl : w.heap.size < w1.heap.size := by have := HZ.out; have := HZ1.out; omega
    have hql : w.heap.size + 1 < w1.heap.size := by have := HZ.out; have := HZ1.out; omega
    have c2 : w1.cell? ⟨w.heap.size, 2, none⟩ = some (.slice A t.args.length ac) := p1.cell 2
    have c2' : w1.cell? ⟨w.heap.size + 1, 2, none⟩ = some (.slice A' t'.args.length ac') := q1.cell 2
    cases htx : textsB t.labels t'.labels
    · have hr := Lib.hid (show eqTyB t t' = false from eqTyB_no fun e => by
        rw [e] at htx
        simp [textsB] at htx)
      clear htx
      go_wp2
      go_ret
      exact ⟨by rw [hr.out]; rfl, hb1⟩
    · have hls : t.labels = t'.labels := by simpa [textsB] using htx
      have HLS := Lib.hid hls
      clear htx hls
      by_cases hlen : t.args.length = t'.args.length
      · have hneq : ((t.args.length : Int) != (t'.args.length : Int)) = false := by rw [bne_eq_false_iff_eq]; omega
        have HLEN := Lib.hid hlen
        have hlen1 : t.args.length ≤ t'.args.length := by omega
        clear hlen
        go_wp2
        clear c2 c2' hneq
        go_loopw [5] (fun i wr => ∃ k : Nat, k ≤ t.args.length ∧ i = .int .i64 k ∧ (∀ j, (h1 : j < t.args.length) → (h2 : j < t'.args.length) → j < k → t.args[j] = t'.args[j]) ∧ Below w1.heap.size w1 wr) (fun i _ => t.args.length - (intOf i).toNat)
        case atStart => exact ⟨0, Nat.zero_le _, rfl, fun j _ _ h => absurd h (by omega), Below.refl _ _⟩
        case round =>
          obtain ⟨k, hk, rfl, hall, hb⟩ := hrel
          have HA := Lib.hid hall
          clear hall
          have c2 : wr.cell? ⟨w.heap.size, 2, none⟩ = some (.slice A t.args.length ac) := (p1.below hb hpl).cell 2
          have c2' : wr.cell? ⟨w.heap.size + 1, 2, none⟩ = some (.slice A' t'.args.length ac') := (q1.below hb hql).cell 2
          by_cases hlt : k < t.args.length
          · obtain ⟨b, off, M, mc, C, cc, rfl, hbl, q0, q1', q2, _, _, _, _, ht⟩ := (ha1.below hb).elem k hlt
            obtain ⟨b', off', M', mc', C', cc', rfl, hbl', r0, r1, r2, _, _, _, _, ht'⟩ := (ha1'.below hb).elem k (by omega)
            have hbs := hb.size
            have hbw : b < wr.heap.size := by omega
            have hbw' : b' < wr.heap.size := by omega
            have hpw : w.heap.size < wr.heap.size := by omega
            have hqw : w.heap.size + 1 < wr.heap.size := by omega
            have HT := HALL.out k hlt (t'.args[k]'(by omega)) _ _ wr.drew ((ht.more hbs).up (Below.refl _ _).drew) ((ht'.more hbs).up (Below.refl _ _).drew)
            have hlt' : k < t'.args.length := by omega
            by_cases hek : t.args[k] = t'.args[k]
            · rw [eqTyB_yes hek] at HT
              have HT' := Lib.hid HT
              have HE := Lib.hid hek
              clear ht ht' HT hek
              go_wp2
              go_region_held3 (fun w' => w'.cell? ⟨w.heap.size, 2, none⟩ = some (.slice (some ⟨b, off, none⟩) t.args.length ac) ∧ w'.cell? ⟨w.heap.size + 1, 2, none⟩ = some (.slice (some ⟨b', off', none⟩) t'.args.length ac') ∧ w'.cell? ⟨b, off + k * 3, none⟩ = some (.int .i64 t.args[k].kind) ∧ w'.cell? ⟨b, off + k * 3 + 1, none⟩ = some (.slice M t.args[k].labels.length mc) ∧ w'.cell? ⟨b, off + k * 3 + 2, none⟩ = some (.slice C t.args[k].args.length cc) ∧ w'.cell? ⟨b', off' + k * 3, none⟩ = some (.int .i64 (t'.args[k]'hlt').kind) ∧ w'.cell? ⟨b', off' + k * 3 + 1, none⟩ = some (.slice M' (t'.args[k]'hlt').labels.length mc') ∧ w'.cell? ⟨b', off' + k * 3 + 2, none⟩ = some (.slice C' (t'.args[k]'hlt').args.length cc') ∧ Below wr.heap.size wr w') ((first | exact ⟨c2, c2', q0, q1', q2, r0, r1, r2, (Below.refl _ _).drew⟩ | exact ⟨y0, y1, k0, k1, k2, k0', k1', k2', k6⟩))
                (first | (go_at_call 30; refine HT'.out.mono ?_; rintro e w' ⟨rfl, hb1⟩; have k6 := (Below.refl wr.heap.size wr).drew.trans hb1; have y0 := (k6.cell (p := ⟨w.heap.size, 2, none⟩) hpw).trans c2; have y1 := (k6.cell (p := ⟨w.heap.size + 1, 2, none⟩) hqw).trans c2'; have k0 := (k6.cell (p := ⟨b, off + k * 3, none⟩) hbw).trans q0; have k1 := (k6.cell (p := ⟨b, off + k * 3 + 1, none⟩) hbw).trans q1'; have k2 := (k6.cell (p := ⟨b, off + k * 3 + 2, none⟩) hbw).trans q2; have k0' := (k6.cell (p := ⟨b', off' + k * 3, none⟩) hbw').trans r0; have k1' := (k6.cell (p := ⟨b', off' + k * 3 + 1, none⟩) hbw').trans r1; have k2' := (k6.cell (p := ⟨b', off' + k * 3 + 2, none⟩) hbw').trans r2))
              go_wp2
              go_roundw
              case rel =>
                refine ⟨k + 1, by omega, by go_num, fun j h1 h2 h => ?_, hb.trans (k6.mono hbs)⟩
                by_cases e : j = k
                · subst e
                  exact HE.out
                · exact HA.out j h1 h2 (by omega)
              case measure => simp [intOf]; omega
            · have hr := Lib.hid (show eqTyB t t' = false from eqTyB_no fun e => hek (by subst e; rfl))
              rw [eqTyB_no hek] at HT
              have HT' := Lib.hid HT
              clear ht ht' HT hek
              go_wp2
              go_region_held3 (fun w' => w'.cell? ⟨w.heap.size, 2, none⟩ = some (.slice (some ⟨b, off, none⟩) t.args.length ac) ∧ w'.cell? ⟨w.heap.size + 1, 2, none⟩ = some (.slice (some ⟨b', off', none⟩) t'.args.length ac') ∧ w'.cell? ⟨b, off + k * 3, none⟩ = some (.int .i64 t.args[k].kind) ∧ w'.cell? ⟨b, off + k * 3 + 1, none⟩ = some (.slice M t.args[k].labels.length mc) ∧ w'.cell? ⟨b, off + k * 3 + 2, none⟩ = some (.slice C t.args[k].args.length cc) ∧ w'.cell? ⟨b', off' + k * 3, none⟩ = some (.int .i64 (t'.args[k]'hlt').kind) ∧ w'.cell? ⟨b', off' + k * 3 + 1, none⟩ = some (.slice M' (t'.args[k]'hlt').labels.length mc') ∧ w'.cell? ⟨b', off' + k * 3 + 2, none⟩ = some (.slice C' (t'.args[k]'hlt').args.length cc') ∧ Below wr.heap.size wr w') ((first | exact ⟨c2, c2', q0, q1', q2, r0, r1, r2, (Below.refl _ _).drew⟩ | exact ⟨y0, y1, k0, k1, k2, k0', k1', k2', k6⟩))
                (first | (go_at_call 30; refine HT'.out.mono ?_; rintro e w' ⟨rfl, hb1⟩; have k6 := (Below.refl wr.heap.size wr).drew.trans hb1; have y0 := (k6.cell (p := ⟨w.heap.size, 2, none⟩) hpw).trans c2; have y1 := (k6.cell (p := ⟨w.heap.size + 1, 2, none⟩) hqw).trans c2'; have k0 := (k6.cell (p := ⟨b, off + k * 3, none⟩) hbw).trans q0; have k1 := (k6.cell (p := ⟨b, off + k * 3 + 1, none⟩) hbw).trans q1'; have k2 := (k6.cell (p := ⟨b, off + k * 3 + 2, none⟩) hbw).trans q2; have k0' := (k6.cell (p := ⟨b', off' + k * 3, none⟩) hbw').trans r0; have k1' := (k6.cell (p := ⟨b', off' + k * 3 + 1, none⟩) hbw').trans r1; have k2' := (k6.cell (p := ⟨b', off' + k * 3 + 2, none⟩) hbw').trans r2))
              go_wp2
              go_ret
              exact ⟨by rw [hr.out]; rfl, hbA.trans ((hb.trans (k6.mono hbs)).mono hbA.size)⟩
          · have hr := Lib.hid (show eqTyB t t' = true from eqTyB_yes (Ty.ext HK.out HLS.out (List.ext_getElem HLEN.out fun j h1 h2 => HA.out j h1 h2 (by omega))))
            go_wp2
            go_ret
            exact ⟨by rw [hr.out]; rfl, hb1.trans (hb.mono hb1.size)⟩
      · have hneq : ((t.args.length : Int) != (t'.args.length : Int)) = true := by rw [bne_iff_ne]; omega
        have hr := Lib.hid (show eqTyB t t' = false from eqTyB_no fun e => hlen (by rw [e]))
        clear hlen
        go_wp2
        go_ret
        exact ⟨by rw [hr.out]; rfl, hb1⟩
  · have hkk : (t.kind != t'.kind) = true := by rw [bne_iff_ne]; exact hk
    have hr := Lib.hid (show eqTyB t t' = false from eqTyB_no fun e => hk (by rw [e]))
    clear hk
    go_enter Try.func30, Try.ntmps30
    go_wp2
    go_ret
    exact ⟨by rw [hr.out]; rfl, hb0⟩

theorem specEqual_any (t : Ty) : EqualOne 30 t := by
  induction t using Ty.ind with
  | h k ls ts ih => exact specEqual_of (.mk k ls ts) ih

end Go.Proofs.Ytmacbkcjeamaeaa
