/- spec.l10Has, spec.IsStructural, spec.IsPlain. -/
import Derived.Test.YthdfidhijmcbdaaGreatDoorOType
import Derived.BigQuiet
namespace Go.Proofs.YthdfidhijmcbdaaGreatDoor
open Go.RowKit

theorem inB_yes {lo hi k : Int} (h : lo ≤ k ∧ k ≤ hi) : inB lo hi k = true := decide_eq_true h
theorem inB_no {lo hi k : Int} (h : ¬ (lo ≤ k ∧ k ≤ hi)) : inB lo hi k = false := decide_eq_false h
theorem l1In_is (x lo hi : Int) (w : World) : Calls Tryz.prog 81 #[.int .i64 x, .int .i64 lo, .int .i64 hi] w fun e w' => e = .returned (.bool (inB lo hi x)) ∧ w = w' := by
  by_cases h : lo ≤ x ∧ x ≤ hi
  · rw [inB_yes h]
    exact l1In_yes x lo hi w h.1 h.2
  · rw [inB_no h]
    exact l1In_no x lo hi w (by omega)

def HasKOne (t : Ot) : Prop := ∀ (v : Value) (w : World) (lo hi : Int), OtAt w w.heap.size v t → szOt t ≤ 1048576 → Calls Tryz.prog 41 #[v, .int .i64 lo, .int .i64 hi] w (BoolIs (hasK lo hi t) w)

set_option maxHeartbeats 4000000 in
theorem specHasK_of (k0 n0 : Int) (nm : ByteArray) (ts : List Ot) (hall : ∀ i, (h : i < ts.length) → HasKOne ts[i]) : HasKOne (.mk k0 n0 nm ts) := by
  intro v w lo hi hv hsz
  have hse := szOt_eq (.mk k0 n0 nm ts)
  have hfe : hasK lo hi (.mk k0 n0 nm ts) = (hasKs lo hi ts || inB lo hi k0) := by rw [hasK]
  obtain ⟨A, ac, rfl, hnm, ha⟩ := hv.open
  simp only [Ot.kind, Ot.num, Ot.name, Ot.args] at *
  have hm := ha.1
  unfold maxLen at hm
  have hsz2 : szOts ts ≤ 1048576 := by omega
  have HALL := Lib.hid hall
  have HFE := Lib.hid hfe
  have HIN := Lib.hid (l1In_is k0 lo hi)
  clear hall hv hfe hse hnm
  obtain ⟨hb0, p0, hs0⟩ := boxes1 w 30 #[.int .i64 k0, .string nm, .int .i64 n0, .slice A ts.length ac]
  have ha0 := ha.up hb0
  have HZ := Lib.hid hs0
  clear ha hs0
  go_enter Tryz.func41, Tryz.ntmps41
  go_wp2
  generalize w.alloc (.cells #[.int .i64 k0, .string nm, .int .i64 n0, .slice A ts.length ac] 30) = w0 at *
  have hpl := p0.lt
  go_loopw [7] (fun i wr => ∃ k : Nat, k ≤ ts.length ∧ i = .int .i64 k ∧ (∀ j, (hj : j < ts.length) → j < k → hasK lo hi ts[j] = false) ∧ Below w0.heap.size w0 wr) (fun i _ => ts.length - (intOf i).toNat)
  case atStart => exact ⟨0, Nat.zero_le _, rfl, fun j _ h => absurd h (by omega), Below.refl _ _⟩
  case round =>
    obtain ⟨k, hk, rfl, hall, hb⟩ := hrel
    have HA := Lib.hid hall
    clear hall
    have p1 := p0.below hb hpl
    have c4 : wr.cell? ⟨w.heap.size, 3, none⟩ = some (.slice A ts.length ac) := p1.cell 3
    by_cases hlt : k < ts.length
    · obtain ⟨b, off, A1, ac1, rfl, hbl, q0, q1, q2, q3, ht⟩ := (ha0.below hb).elem k hlt
      have hpt := szOt_part ts k hlt
      have HT := HALL.out k hlt _ wr lo hi (ht.more hb.size) (by omega)
      cases hfk : hasK lo hi ts[k]
      · rw [hfk] at HT
        have HT' := Lib.hid HT
        have HK := Lib.hid hfk
        clear ht p1 HT hfk
        go_wp2_with fail
        refine HT'.out.mono ?_
        rintro e w1 ⟨rfl, hb1⟩
        go_wp2
        go_roundw
        case rel =>
          refine ⟨k + 1, by omega, by go_num, fun j hj h => ?_, hb.trans (hb1.mono hb.size)⟩
          by_cases e : j = k
          · subst e
            exact HK.out
          · exact HA.out j hj (by omega)
        case measure => simp [intOf]; omega
      · rw [hfk] at HT
        have HT' := Lib.hid HT
        have hr := Lib.hid (show hasK lo hi (.mk k0 n0 nm ts) = true by rw [HFE.out, hasKs_some lo hi ts k hlt hfk]; rfl)
        clear ht p1 HT hfk
        go_wp2_with fail
        refine HT'.out.mono ?_
        rintro e w1 ⟨rfl, hb1⟩
        go_wp2
        go_ret
        exact ⟨by rw [hr.out]; rfl, hb0.trans ((hb.trans (hb1.mono hb.size)).mono hb0.size)⟩
    · have hke : k = ts.length := by omega
      subst hke
      have hft := hasKs_none lo hi ts fun i hi => HA.out i hi hi
      have c0 : wr.cell? ⟨w.heap.size, 0, none⟩ = some (.int .i64 k0) := p1.cell 0
      have hb' := hb0.trans (hb.mono hb0.size)
      have hr := Lib.hid (show hasK lo hi (.mk k0 n0 nm ts) = inB lo hi k0 by rw [HFE.out, hft]; rfl)
      clear p1 hft
      go_wp2_with fail
      refine (HIN.out _).mono ?_
      rintro e w1 ⟨rfl, rfl⟩
      go_wp2
      go_ret
      exact ⟨by rw [hr.out]; rfl, hb'⟩

theorem specHasK_any (t : Ot) : HasKOne t := by
  induction t using Ot.ind with
  | h k n nm ts ih => exact specHasK_of k n nm ts ih

theorem specIsStructural_any (t : Ot) (v : Value) (w : World) (hv : OtAt w w.heap.size v t) (hsz : szOt t ≤ 1048576) :
    Calls Tryz.prog 14 #[v] w (BoolIs (structuralB t) w) := by
  have hv0 := hv
  have HO := Lib.hid (fun W h => specIsOptic_any t v W h hsz)
  have HK := Lib.hid (fun W h => specHasK_any t v W 9 11 h hsz)
  obtain ⟨A, ac, rfl, _, _⟩ := hv.open
  obtain ⟨hb0, p0, hs0⟩ := boxes1 w 30 #[.int .i64 t.kind, .string t.name, .int .i64 t.num, .slice A t.args.length ac]
  have hv1 := hv0.up hb0
  have hpl := p0.lt
  clear hs0 hv hv0
  cases ho : opticB t
  · have hr := Lib.hid (show structuralB t = false by simp [structuralB, ho])
    rw [ho] at HO
    clear ho HK
    go_enter Tryz.func14, Tryz.ntmps14
    go_wp2_with fail
    generalize w.alloc (.cells #[.int .i64 t.kind, .string t.name, .int .i64 t.num, .slice A t.args.length ac] 30) = w0 at *
    refine (HO.out w0 hv1).mono ?_
    rintro e w1 ⟨rfl, hb1⟩
    go_wp2
    go_ret
    exact ⟨by rw [hr.out]; rfl, hb0.trans (hb1.mono hb0.size)⟩
  · have hr := Lib.hid (show structuralB t = !hasK 9 11 t by simp [structuralB, ho])
    rw [ho] at HO
    clear ho
    generalize hasK 9 11 t = bk at *
    go_enter Tryz.func14, Tryz.ntmps14
    go_wp2_with fail
    generalize w.alloc (.cells #[.int .i64 t.kind, .string t.name, .int .i64 t.num, .slice A t.args.length ac] 30) = w0 at *
    refine (HO.out w0 hv1).mono ?_
    rintro e w1 ⟨rfl, hb1⟩
    have p1 := p0.below hb1 hpl
    have hv2 := hv1.up hb1
    have c0 : w1.cell? ⟨w.heap.size, 0, none⟩ = some (.int .i64 t.kind) := p1.cell 0
    have c1 : w1.cell? ⟨w.heap.size, 1, none⟩ = some (.string t.name) := p1.cell 1
    have c2 : w1.cell? ⟨w.heap.size, 2, none⟩ = some (.int .i64 t.num) := p1.cell 2
    have c3 : w1.cell? ⟨w.heap.size, 3, none⟩ = some (.slice A t.args.length ac) := p1.cell 3
    go_wp2_with fail
    refine (HK.out w1 hv2).mono ?_
    rintro e w2 ⟨rfl, hb2⟩
    have hb1' := hb0.trans (hb1.mono hb0.size)
    cases bk <;>
      (go_wp2
       go_ret
       exact ⟨by rw [hr.out]; rfl, hb1'.trans (hb2.mono hb1'.size)⟩)

theorem specIsPlain_any (t : Ot) (v : Value) (w : World) (hv : OtAt w w.heap.size v t) (hsz : szOt t ≤ 1048576) :
    Calls Tryz.prog 16 #[v] w (BoolIs (plainB t) w) := by
  have hv0 := hv
  have HO := Lib.hid (fun W h => specIsStructural_any t v W h hsz)
  have HK := Lib.hid (fun W h => specHasK_any t v W 7 8 h hsz)
  obtain ⟨A, ac, rfl, _, _⟩ := hv.open
  obtain ⟨hb0, p0, hs0⟩ := boxes1 w 30 #[.int .i64 t.kind, .string t.name, .int .i64 t.num, .slice A t.args.length ac]
  have hv1 := hv0.up hb0
  have hpl := p0.lt
  clear hs0 hv hv0
  cases ho : structuralB t
  · have hr := Lib.hid (show plainB t = false by simp [plainB, ho])
    rw [ho] at HO
    clear ho HK
    go_enter Tryz.func16, Tryz.ntmps16
    go_wp2_with fail
    generalize w.alloc (.cells #[.int .i64 t.kind, .string t.name, .int .i64 t.num, .slice A t.args.length ac] 30) = w0 at *
    refine (HO.out w0 hv1).mono ?_
    rintro e w1 ⟨rfl, hb1⟩
    go_wp2
    go_ret
    exact ⟨by rw [hr.out]; rfl, hb0.trans (hb1.mono hb0.size)⟩
  · have hr := Lib.hid (show plainB t = !hasK 7 8 t by simp [plainB, ho])
    rw [ho] at HO
    clear ho
    generalize hasK 7 8 t = bk at *
    go_enter Tryz.func16, Tryz.ntmps16
    go_wp2_with fail
    generalize w.alloc (.cells #[.int .i64 t.kind, .string t.name, .int .i64 t.num, .slice A t.args.length ac] 30) = w0 at *
    refine (HO.out w0 hv1).mono ?_
    rintro e w1 ⟨rfl, hb1⟩
    have p1 := p0.below hb1 hpl
    have hv2 := hv1.up hb1
    have c0 : w1.cell? ⟨w.heap.size, 0, none⟩ = some (.int .i64 t.kind) := p1.cell 0
    have c1 : w1.cell? ⟨w.heap.size, 1, none⟩ = some (.string t.name) := p1.cell 1
    have c2 : w1.cell? ⟨w.heap.size, 2, none⟩ = some (.int .i64 t.num) := p1.cell 2
    have c3 : w1.cell? ⟨w.heap.size, 3, none⟩ = some (.slice A t.args.length ac) := p1.cell 3
    go_wp2_with fail
    refine (HK.out w1 hv2).mono ?_
    rintro e w2 ⟨rfl, hb2⟩
    have hb1' := hb0.trans (hb1.mono hb0.size)
    cases bk <;>
      (go_wp2
       go_ret
       exact ⟨by rw [hr.out]; rfl, hb1'.trans (hb2.mono hb1'.size)⟩)

end Go.Proofs.YthdfidhijmcbdaaGreatDoor
