/- spec.l8Text and spec.FormatOptic give the text of an optic. -/
import Derived.Test.YtlmbnefoobameaaDoorOTxt
import Derived.Test.YtlmbnefoobameaaDoorSpecText
import Derived.Test.YtlmbnefoobameaaDoorFmt
import Derived.BigGuard
namespace Go.Proofs.YtlmbnefoobameaaDoor
open Go.RowKit

theorem lead_bytes (p : List UInt8) (x : ByteArray) : (⟨p.toArray⟩ ++ x : ByteArray) = ⟨(p ++ x.data.toList).toArray⟩ := by
  apply ByteArray.ext
  simp only [ByteArray.data_append]
  apply Array.toList_inj.1
  simp
theorem lead_list (p x : List UInt8) : (⟨p.toArray⟩ ++ ⟨x.toArray⟩ : ByteArray) = ⟨(p ++ x).toArray⟩ := by
  apply ByteArray.ext
  simp only [ByteArray.data_append]
  apply Array.toList_inj.1
  simp
theorem txtOs_len (ts : List Ot) : (txtOs ts).length = ts.length := by rw [txtOs_map, List.length_map]
theorem txtOs_sum : ∀ (ts : List Ot), (∀ i, (h : i < ts.length) → (txtO ts[i]).length ≤ 24 * sizeOt ts[i]) → sumLens (txtOs ts) ≤ 24 * sizeOts ts
  | [], _ => by simp [txtOs, sumLens]
  | t :: r, h => by
    have h1 := txtOs_sum r fun i hi => h (i + 1) (by simpa using hi)
    have h2 := h 0 (by simp)
    simp only [txtOs, sumLens, sizeOts, List.map_cons, List.sum_cons, List.getElem_cons_zero] at h1 h2 ⊢
    omega
theorem join_pair (a b : Ot) (c : UInt8) : joinTo (bytesOf (txtOs [a, b])) ⟨#[c]⟩ (bytesOf (txtOs [a, b])).length = txtO a ++ c :: txtO b := by
  simp [bytesOf, txtOs, joinTo]
theorem sizeOts_len : ∀ (ts : List Ot), ts.length ≤ sizeOts ts
  | [] => Nat.le_refl _
  | t :: r => by
    have h1 := sizeOts_len r
    have h2 := sizeOt_eq t
    rw [sizeOts, List.length_cons]
    omega
def TextOOne (f : Nat) (t : Ot) : Prop := ∀ (v : Value) (w : World), OtAt w w.heap.size v t → formOt t = true → sizeOt t ≤ 1000 → Calls Tryd.prog f #[v] w (StrIs ⟨(txtO t).toArray⟩ w)

set_option maxHeartbeats 8000000 in
set_option maxRecDepth 100000 in
theorem specTextO_of (k0 n0 : Int) (nm : ByteArray) (ts : List Ot) (hall : ∀ i, (h : i < ts.length) → TextOOne 57 ts[i]) : TextOOne 57 (.mk k0 n0 nm ts) := by
  intro v w hv hf hsz
  obtain ⟨i0, hi, hz0, hz1, hz2⟩ := info_parts infoString
  have htx : txtO (.mk k0 n0 nm ts) = nodeTxtO k0 n0 nm (txtOs ts) := by rw [txtO]
  rw [formOt, Bool.and_eq_true] at hf
  have hfa := formOts_at ts hf.1
  have hsum := txtOs_sum ts fun i hi => txtO_len ts[i] (hfa i hi)
  have hsz2 : 1 + sizeOts ts ≤ 1000 := by rw [sizeOt] at hsz; exact hsz
  have HF := Lib.hid hfa
  have HFORM := Lib.hid (nodeOB_forms hf.2)
  have hpl : (bytesOf (txtOs ts)).length = ts.length := by rw [bytesOf_len, txtOs_len]
  have HPL := Lib.hid hpl
  have HPS := Lib.hid (show sumLens (txtOs ts) ≤ 24000 by omega)
  have HTX := Lib.hid htx
  have HALL := Lib.hid hall
  obtain ⟨A, ac, rfl, hnm, ha⟩ := hv.open
  simp only [Ot.kind, Ot.num, Ot.name, Ot.args] at *
  have hm := ha.1
  clear hall hv hf hpl htx hsum hnm hfa
  obtain ⟨hb0, p0, q0, hs0⟩ := boxes2 w 50 9 #[.int .i64 k0, .string nm, .int .i64 n0, .slice A ts.length ac] #[]
  have hown0 : ((w.alloc (.cells #[.int .i64 k0, .string nm, .int .i64 n0, .slice A ts.length ac] 50)).alloc (.cells #[] 9)).ownsRow (w.heap.size + 1) 9 1 (.slice (some ⟨w.heap.size + 1, 0, none⟩) 0 0) 0 [] := by
    have := World.ownsRow_lit (base := w.heap.size + 1) (e := 9) (size := 1) (w.alloc (.cells #[.int .i64 k0, .string nm, .int .i64 n0, .slice A ts.length ac] 50)) #[] 0 (by simp) (Nat.zero_le _) rfl
    rw [show (w.alloc (.cells #[.int .i64 k0, .string nm, .int .i64 n0, .slice A ts.length ac] 50)).heap.size = w.heap.size + 1 by simp] at this
    exact this
  have ha0 := ha.below hb0
  have HZ := Lib.hid hs0
  have hszw : w.heap.size + 2 ≤ ((w.alloc (.cells #[.int .i64 k0, .string nm, .int .i64 n0, .slice A ts.length ac] 50)).alloc (.cells #[] 9)).heap.size := by omega
  clear hs0 ha q0
  go_enter Tryd.func57, Tryd.ntmps57
  go_wp2
  generalize ((w.alloc (.cells #[.int .i64 k0, .string nm, .int .i64 n0, .slice A ts.length ac] 50)).alloc (.cells #[] 9)) = w0 at *
  have hpw := p0.lt
  go_loopw [3, 4] (fun a i wr => ∃ k : Nat, k ≤ ts.length ∧ i = .int .i64 k ∧ wr.ownsRow (w.heap.size + 1) 9 1 a k (strVals ((bytesOf (txtOs ts)).take k)) ∧ Below (w.heap.size + 1) w0 wr) (fun _ i _ => ts.length - (intOf i).toNat)
  case atStart => exact ⟨0, Nat.zero_le _, rfl, hown0, Below.refl _ _⟩
  case round =>
    obtain ⟨k, hk, rfl, hown, hb⟩ := hrel
    have hbW := hb.mono (Nat.le_succ w.heap.size)
    have p1 := p0.below hb (Nat.lt_succ_self _)
    have c0 : wr.cell? ⟨w.heap.size, 0, none⟩ = some (.int .i64 k0) := p1.cell 0
    have c1 : wr.cell? ⟨w.heap.size, 1, none⟩ = some (.string nm) := p1.cell 1
    have c2 : wr.cell? ⟨w.heap.size, 2, none⟩ = some (.int .i64 n0) := p1.cell 2
    have c3 : wr.cell? ⟨w.heap.size, 3, none⟩ = some (.slice A ts.length ac) := p1.cell 3
    have hbs := hb.size
    have htk3 : ts.length ≤ 1000 := by have := sizeOts_len ts; omega
    by_cases hlt : k < ts.length
    · obtain ⟨b, off, A1, ac1, rfl, hbl, q0, q1, q2, q3, ht⟩ := (ha0.below hbW).elem k hlt
      have htk := sizeOts_take ts k hlt
      have htl := sizeOts_le ts (k + 1)
      have HT := Lib.hid (HALL.out k hlt _ wr (ht.more (by omega)) (HF.out k hlt) (by omega))
      clear ht htk htl
      go_wp2_with fail
      refine HT.out.mono ?_
      rintro e w3 ⟨rfl, hb3'⟩
      have hb3 := hb.trans (hb3'.mono (by omega))
      have HOWN := Lib.hid (own_keep1 (w' := w3) hown (fun g hg => hb3'.block g (hown.lt g hg).2))
      have hs3 := hb3.size
      clear hown p1 c0 c1 c2 c3 q0 q1 q2 q3
      have HPK : Hid ((bytesOf (txtOs ts))[k]'(by rw [HPL.out]; exact hlt) = ⟨(txtO ts[k]).toArray⟩) := Lib.hid (by
        simp only [bytesOf, List.getElem_map, txtOs_map])
      go_wp2_with (at_builtin; refine wpList_append_own _ rfl (.tmp 13) (.tmp 20) _ rfl (w.heap.size + 1) 9 i0 (.string ⟨#[]⟩) 1 16 Tryd.underlying24 hi hz0 hz1 hz2 rfl (by decide) _ _ _ rfl (HOWN.out.alloc _) ⟨w3.heap.size, 0, none⟩ 1 1 [.string ⟨(txtO ts[k]).toArray⟩] rfl rfl (cellNew w3 9 _) (by intro u hu; simp at hu; subst hu; rfl) (by unfold maxLen; omega) (by omega) (by have := hb3.size; simp; omega) ?_; intro v1 w4 hown1 hg1 _)
      go_roundw
      case rel => exact ⟨k + 1, by omega, by go_num, by rw [show strVals ((bytesOf (txtOs ts)).take (k + 1)) = strVals ((bytesOf (txtOs ts)).take k) ++ [.string ⟨(txtO ts[k]).toArray⟩] from by rw [List.take_succ_eq_append_getElem (by rw [HPL.out]; omega), HPK.out]; simp [strVals]]; exact hown1, (hb3.alloc (by omega) _).grown hg1 (by have := hb3.size; simp; omega) (fun q hq => by have := (HOWN.out.lt q hq).1; omega)⟩
      case measure => simp [intOf]; omega
    · have hke : k = ts.length := by omega
      subst hke
      rw [List.take_of_length_le (by rw [HPL.out]; exact Nat.le_refl _)] at hown
      obtain ⟨A3, c5, rfl, hst⟩ := own_strings hown
      have HB := Lib.hid (hb0.trans hbW)
      have hpn : (bytesOf (txtOs ts)).length = ts.length := HPL.out
      have HST := Lib.hid hst
      have HPN := Lib.hid hpn
      clear hown hst p1 ha0
      rcases HFORM.out with ⟨hq0, rfl, rfl, rfl⟩ | ⟨hq0, rfl, hnm, rfl⟩ | ⟨hq0, hn, rfl, rfl⟩ | ⟨rfl, rfl, rfl, t, rfl⟩ | ⟨hq0, rfl, rfl, a, b, rfl⟩
      · rcases hq0 with rfl | rfl | rfl | rfl | rfl
        all_goals
          go_wp2
          go_ret
          exact ⟨by rw [HTX.out]; rfl, HB.out⟩
      · rcases hq0 with rfl | rfl | rfl
        · have hnz := name_len hnm
          have hj0 : ¬ 9223372036854775807 < 1 + nm.size := by omega
          have HE : Hid (txtO (.mk 2 0 nm []) = [46] ++ nm.data.toList) := Lib.hid (by rw [HTX.out]; rfl)
          clear hnm hnz
          go_wp2
          go_ret
          exact ⟨by rw [HE.out, lead_bytes]; rfl, HB.out⟩
        · have hnz := name_len hnm
          have hj0 : ¬ 9223372036854775807 < 1 + nm.size := by omega
          have HE : Hid (txtO (.mk 3 0 nm []) = [63] ++ nm.data.toList) := Lib.hid (by rw [HTX.out]; rfl)
          clear hnm hnz
          go_wp2
          go_ret
          exact ⟨by rw [HE.out, lead_bytes]; rfl, HB.out⟩
        · have hnz := name_len hnm
          have hj0 : ¬ 9223372036854775807 < 5 + nm.size := by omega
          have HE : Hid (txtO (.mk 10 0 nm []) = [119, 114, 97, 112, 32] ++ nm.data.toList) := Lib.hid (by rw [HTX.out]; rfl)
          clear hnm hnz
          go_wp2
          go_ret
          exact ⟨by rw [HE.out, lead_bytes]; rfl, HB.out⟩
      · rcases hq0 with rfl | rfl
        · have hn0 := itoa_len n0 (by omega)
          have hj0 : ¬ 9223372036854775807 < 3 + (Lib.itoa n0).length := by omega
          have HE : Hid (txtO (.mk 6 n0 ⟨#[]⟩ []) = [97, 116, 32] ++ Lib.itoa n0) := Lib.hid (by rw [HTX.out]; rfl)
          have HI := Lib.hid (specFormatInt_any n0 wr (by omega) (by omega))
          clear hn hn0
          go_wp2_with fail
          refine HI.out.mono ?_
          rintro e w5 ⟨rfl, hb5⟩
          go_wp2
          go_ret
          exact ⟨by rw [HE.out, lead_list]; rfl, HB.out.trans (hb5.mono HB.out.size)⟩
        · have hn0 := itoa_len n0 (by omega)
          have hj0 : ¬ 9223372036854775807 < 4 + (Lib.itoa n0).length := by omega
          have HE : Hid (txtO (.mk 7 n0 ⟨#[]⟩ []) = [97, 100, 100, 32] ++ Lib.itoa n0) := Lib.hid (by rw [HTX.out]; rfl)
          have HI := Lib.hid (specFormatInt_any n0 wr (by omega) (by omega))
          clear hn hn0
          go_wp2_with fail
          refine HI.out.mono ?_
          rintro e w5 ⟨rfl, hb5⟩
          go_wp2
          go_ret
          exact ⟨by rw [HE.out, lead_list]; rfl, HB.out.trans (hb5.mono HB.out.size)⟩
      · skip
        have h0 : 0 < (bytesOf (txtOs [t])).length := by rw [HPN.out]; simp
        obtain ⟨b, o, rfl, hbl, hcl⟩ := HST.out 0 h0
        have h0I : (0 : Int) < ((bytesOf (txtOs [t])).length : Int) := by omega
        have e0 : (bytesOf (txtOs [t]))[0] = ⟨(txtO t).toArray⟩ := by simp [bytesOf, txtOs]
        rw [Nat.add_zero, e0] at hcl
        have hTl : (txtO t).length ≤ 24000 := by have := HPS.out; simp [txtOs, sumLens] at this; omega
        have HE : Hid (txtO (.mk 11 0 ⟨#[]⟩ [t]) = [109, 97, 112, 32] ++ txtO t) := Lib.hid (by rw [txtO_11]; rfl)
        generalize txtO t = T at *
        have hj1 : ¬ 9223372036854775807 < 4 + T.length := by omega
        clear hTl e0
        go_wp2
        go_ret
        exact ⟨by rw [HE.out, lead_list]; rfl, HB.out⟩
      · rcases hq0 with rfl | rfl
        · have hJ := Lib.hid (specJoin_any A3 c5 (bytesOf (txtOs [a, b])) ⟨#[59]⟩ wr HST.out (by rw [HPN.out]; omega) (by rw [bytesOf_sum]; have := HPS.out; omega) (by decide))
          have HC : Hid (joinTo (bytesOf (txtOs [a, b])) ⟨#[59]⟩ (bytesOf (txtOs [a, b])).length = txtO a ++ 59 :: txtO b) := Lib.hid (join_pair _ _ _)
          have hJ2 := hJ.out
          rw [HC.out] at hJ2
          have HJ2 := Lib.hid hJ2
          have HE : Hid (txtO (.mk 12 0 ⟨#[]⟩ [a, b]) = 40 :: ((txtO a ++ 59 :: txtO b) ++ [41])) := Lib.hid (by rw [txtO_12]; simp)
          have hjl : (txtO a ++ 59 :: txtO b).length ≤ 48001 := by have := HPS.out; simp [txtOs, sumLens] at this ⊢; omega
          generalize txtO a ++ 59 :: txtO b = J at *
          have hj1 : ¬ 9223372036854775807 < 1 + J.length := by omega
          have hj2 : ¬ 9223372036854775807 < 1 + J.length + 1 := by omega
          clear hJ hJ2 hjl
          go_wp2_with fail
          refine HJ2.out.mono ?_
          rintro e w5 ⟨rfl, hb5⟩
          go_wp2
          go_ret
          exact ⟨by rw [HE.out, byte3]; rfl, HB.out.trans (hb5.mono HB.out.size)⟩
        · have hJ := Lib.hid (specJoin_any A3 c5 (bytesOf (txtOs [a, b])) ⟨#[124]⟩ wr HST.out (by rw [HPN.out]; omega) (by rw [bytesOf_sum]; have := HPS.out; omega) (by decide))
          have HC : Hid (joinTo (bytesOf (txtOs [a, b])) ⟨#[124]⟩ (bytesOf (txtOs [a, b])).length = txtO a ++ 124 :: txtO b) := Lib.hid (join_pair _ _ _)
          have hJ2 := hJ.out
          rw [HC.out] at hJ2
          have HJ2 := Lib.hid hJ2
          have HE : Hid (txtO (.mk 13 0 ⟨#[]⟩ [a, b]) = 40 :: ((txtO a ++ 124 :: txtO b) ++ [41])) := Lib.hid (by rw [txtO_13]; simp)
          have hjl : (txtO a ++ 124 :: txtO b).length ≤ 48001 := by have := HPS.out; simp [txtOs, sumLens] at this ⊢; omega
          generalize txtO a ++ 124 :: txtO b = J at *
          have hj1 : ¬ 9223372036854775807 < 1 + J.length := by omega
          have hj2 : ¬ 9223372036854775807 < 1 + J.length + 1 := by omega
          clear hJ hJ2 hjl
          go_wp2_with fail
          refine HJ2.out.mono ?_
          rintro e w5 ⟨rfl, hb5⟩
          go_wp2
          go_ret
          exact ⟨by rw [HE.out, byte3]; rfl, HB.out.trans (hb5.mono HB.out.size)⟩

theorem specTextO_any (t : Ot) : TextOOne 57 t := by
  induction t using Ot.ind with
  | h k n nm ts ih => exact specTextO_of k n nm ts ih

set_option maxHeartbeats 1000000 in
theorem specFormatO_any (t : Ot) (v : Value) (w : World) (hv : OtAt w w.heap.size v t) (hsz : szOt t ≤ 1048576) : Calls Tryd.prog 23 #[v] w (StrIs (formatOB t) w) := by
  have HX : opticB t = true → Hid (∀ W, Below w.heap.size w W → Calls Tryd.prog 57 #[v] W (StrIs ⟨(txtO t).toArray⟩ W)) := fun h => Lib.hid fun W hb => by
    obtain ⟨h1, _, h3⟩ := opticB_parts h
    exact specTextO_any t v W (hv.up hb) h3 (by omega)
  have hv0 := hv
  obtain ⟨A, ac, rfl, _⟩ := hv.open
  obtain ⟨hb0, p0, hs0⟩ := boxes1 w 50 #[.int .i64 t.kind, .string t.name, .int .i64 t.num, .slice A t.args.length ac]
  have HV := Lib.hid (specIsOptic_any t _ _ (hv0.up hb0) hsz)
  have c0 : (w.alloc (.cells #[.int .i64 t.kind, .string t.name, .int .i64 t.num, .slice A t.args.length ac] 50)).cell? ⟨w.heap.size, 0, none⟩ = some (.int .i64 t.kind) := p0.cell 0
  have c1 : (w.alloc (.cells #[.int .i64 t.kind, .string t.name, .int .i64 t.num, .slice A t.args.length ac] 50)).cell? ⟨w.heap.size, 1, none⟩ = some (.string t.name) := p0.cell 1
  have c2 : (w.alloc (.cells #[.int .i64 t.kind, .string t.name, .int .i64 t.num, .slice A t.args.length ac] 50)).cell? ⟨w.heap.size, 2, none⟩ = some (.int .i64 t.num) := p0.cell 2
  have c3 : (w.alloc (.cells #[.int .i64 t.kind, .string t.name, .int .i64 t.num, .slice A t.args.length ac] 50)).cell? ⟨w.heap.size, 3, none⟩ = some (.slice A t.args.length ac) := p0.cell 3
  clear hv hv0 hs0
  cases hvb : opticB t
  · rw [hvb] at HV
    have HE : Hid (formatOB t = ⟨#[]⟩) := Lib.hid (by unfold formatOB; rw [hvb]; rfl)
    clear HX hvb
    go_enter Tryd.func23, Tryd.ntmps23
    go_wp2_with fail
    generalize (w.alloc (.cells #[.int .i64 t.kind, .string t.name, .int .i64 t.num, .slice A t.args.length ac] 50)) = w0 at *
    refine HV.out.mono ?_
    rintro e w1 ⟨rfl, hb1⟩
    go_wp2
    go_ret
    exact ⟨by rw [HE.out]; rfl, hb0.trans (hb1.mono hb0.size)⟩
  · rw [hvb] at HV
    have HE : Hid (formatOB t = ⟨(txtO t).toArray⟩) := Lib.hid (by unfold formatOB; rw [hvb]; rfl)
    have HX2 := HX hvb
    clear HX hvb
    go_enter Tryd.func23, Tryd.ntmps23
    go_wp2_with fail
    generalize (w.alloc (.cells #[.int .i64 t.kind, .string t.name, .int .i64 t.num, .slice A t.args.length ac] 50)) = w0 at *
    refine HV.out.mono ?_
    rintro e w1 ⟨rfl, hb1⟩
    have hb01 := hb0.trans (hb1.mono hb0.size)
    have HX3 := Lib.hid (HX2.out w1 hb01)
    have p1 := p0.below hb1 p0.lt
    have d0 : w1.cell? ⟨w.heap.size, 0, none⟩ = some (.int .i64 t.kind) := p1.cell 0
    have d1 : w1.cell? ⟨w.heap.size, 1, none⟩ = some (.string t.name) := p1.cell 1
    have d2 : w1.cell? ⟨w.heap.size, 2, none⟩ = some (.int .i64 t.num) := p1.cell 2
    have d3 : w1.cell? ⟨w.heap.size, 3, none⟩ = some (.slice A t.args.length ac) := p1.cell 3
    clear p1 c0 c1 c2 c3
    go_wp2_with fail
    refine HX3.out.mono ?_
    rintro e w2 ⟨rfl, hb2⟩
    go_wp2
    go_ret
    exact ⟨by rw [HE.out]; rfl, hb01.trans (hb2.mono hb01.size)⟩

end Go.Proofs.YtlmbnefoobameaaDoor
