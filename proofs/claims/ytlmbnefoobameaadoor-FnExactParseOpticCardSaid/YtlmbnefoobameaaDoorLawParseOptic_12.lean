/- Lemmas: SpecOText, OParse, SpecOParse, ShelfAtoi, Atoi, IntW, ImplParse, RO, ROPair. -/
import Derived.Test.YtlmbnefoobameaaDoorLawParseOptic_7
import Derived.Test.YtlmbnefoobameaaDoorLawParseOptic_11
import Derived.Test.YtlmbnefoobameaaDoorLawParseOptic_9
import Derived.BigGuard
import Derived.Shelf.Strconv.Atoi
import Derived.Shelf.Strconv.Itoa0
import Derived.Shelf.Strconv.Itoa1
import Derived.Shelf.LaysM
import Derived.Shelf.Strconv.Itoa2
import Derived.Shelf.Strconv.Itoa3
import Derived.Shelf.Strconv.AtoiErrFast
import Derived.Shelf.Strconv.ParseIntEmpty
import Derived.Shelf.Strconv.AtoiFail
import Derived.Shelf.Strconv.Clone
import Derived.Shelf.Strconv.SyntaxError
import Derived.Shelf.LaysC
import Derived.Shelf.Strconv.ToError
import Derived.Shelf.Strconv.Lower
import Derived.Shelf.Strconv.ParseUint10
import Derived.Shelf.Strconv.ParseUint10Empty
import Derived.Shelf.Strconv.ParseUint10Any
import Derived.Shelf.Strconv.ParseInt10
import Derived.Shelf.Strconv.AtoiLong
import Derived.Shelf.Strconv.AtoiInnerAll
import Derived.Shelf.Strconv.RangeError
import Derived.Shelf.Strconv.ToErrorRange
import Derived.Shelf.Strconv.AtoiAll
import Derived.Shelf.Strconv.ErrVarAll
import Derived.Shelf.GgClosure.StringsIndexFunc
import Derived.Shelf.GgClosure.StringsTrimFunc
import Derived.Shelf.GgClosure.StringsRunes
import Derived.Shelf.Strings.Prefix
import Derived.Test.YtlmbnefoobameaaDoorProg
import Derived.Test.YtlmbnefoobameaaDoorLawParseOptic_5
import Derived.Below
import Derived.WalkKit
import Derived.WalkLawsBesides
import Derived.Lib.IfaceNeq
import Derived.Defers
import Derived.Recover
import Derived.Test.YtlmbnefoobameaaDoorLawParseOptic_10
import Derived.Deep.RegionHeld3
import Derived.Deep.DrawnRows

section
namespace Go.Proofs.YtlmbnefoobameaaDoor
open Go.RowKit

theorem lead_bytes (p : List UInt8) (x : ByteArray) : (⟨p.toArray⟩ ++ x : ByteArray) = ⟨(p ++ x.data.toList).toArray⟩ := by
  apply ByteArray.ext
  simp only [ByteArray.data_append]
  apply Array.toList_inj.1
  simp
theorem lead_list (p x : List UInt8) : (⟨p.toArray⟩ ++ ⟨x.toArray⟩ : ByteArray) = ⟨(p ++ x).toArray⟩ := by
  apply ByteArray.ext
  simp only [ByteArray.data_append]
  apply Array.toList_inj.1
  simp
theorem txtOs_len (ts : List Ot) : (txtOs ts).length = ts.length := by rw [txtOs_map, List.length_map]
theorem txtOs_sum : ∀ (ts : List Ot), (∀ i, (h : i < ts.length) → (txtO ts[i]).length ≤ 24 * sizeOt ts[i]) → sumLens (txtOs ts) ≤ 24 * sizeOts ts
  | [], _ => by simp [txtOs, sumLens]
  | t :: r, h => by
    have h1 := txtOs_sum r fun i hi => h (i + 1) (by simpa using hi)
    have h2 := h 0 (by simp)
    simp only [txtOs, sumLens, sizeOts, List.map_cons, List.sum_cons, List.getElem_cons_zero] at h1 h2 ⊢
    omega
theorem join_pair (a b : Ot) (c : UInt8) : joinTo (bytesOf (txtOs [a, b])) ⟨#[c]⟩ (bytesOf (txtOs [a, b])).length = txtO a ++ c :: txtO b := by
  simp [bytesOf, txtOs, joinTo]
theorem sizeOts_len : ∀ (ts : List Ot), ts.length ≤ sizeOts ts
  | [] => Nat.le_refl _
  | t :: r => by
    have h1 := sizeOts_len r
    have h2 := sizeOt_eq t
    rw [sizeOts, List.length_cons]
    omega
def TextOOne (f : Nat) (t : Ot) : Prop := ∀ (v : Value) (w : World), OtAt w w.heap.size v t → formOt t = true → sizeOt t ≤ 1000 → Calls Tryd.prog f #[v] w (StrIs ⟨(txtO t).toArray⟩ w)

set_option maxHeartbeats 8000000 in
set_option maxRecDepth 100000 in
theorem specTextO_of (k0 n0 : Int) (nm : ByteArray) (ts : List Ot) (hall : ∀ i, (h : i < ts.length) → TextOOne 57 ts[i]) : TextOOne 57 (.mk k0 n0 nm ts) := by
  intro v w hv hf hsz
  obtain ⟨i0, hi, hz0, hz1, hz2⟩ := info_parts infoString
  have htx : txtO (.mk k0 n0 nm ts) = nodeTxtO k0 n0 nm (txtOs ts) := by rw [txtO]
  rw [formOt, Bool.and_eq_true] at hf
  have hfa := formOts_at ts hf.1
  have hsum := txtOs_sum ts fun i hi => txtO_len ts[i] (hfa i hi)
  have hsz2 : 1 + sizeOts ts ≤ 1000 := by rw [sizeOt] at hsz; exact hsz
  have HF := Lib.hid hfa
  have HFORM := Lib.hid (nodeOB_forms hf.2)
  have hpl : (bytesOf (txtOs ts)).length = ts.length := by rw [bytesOf_len, txtOs_len]
  have HPL := Lib.hid hpl
  have HPS := Lib.hid (show sumLens (txtOs ts) ≤ 24000 by omega)
  have HTX := Lib.hid htx
  have HALL := Lib.hid hall
  obtain ⟨A, ac, rfl, hnm, ha⟩ := hv.open
  simp only [Ot.kind, Ot.num, Ot.name, Ot.args] at *
  have hm := ha.1
  clear hall hv hf hpl htx hsum hnm hfa
  obtain ⟨hb0, p0, q0, hs0⟩ := boxes2 w 50 9 #[.int .i64 k0, .string nm, .int .i64 n0, .slice A ts.length ac] #[]
  have hown0 : ((w.alloc (.cells #[.int .i64 k0, .string nm, .int .i64 n0, .slice A ts.length ac] 50)).alloc (.cells #[] 9)).ownsRow (w.heap.size + 1) 9 1 (.slice (some ⟨w.heap.size + 1, 0, none⟩) 0 0) 0 [] := by
    have := World.ownsRow_lit (base := w.heap.size + 1) (e := 9) (size := 1) (w.alloc (.cells #[.int .i64 k0, .string nm, .int .i64 n0, .slice A ts.length ac] 50)) #[] 0 (by simp) (Nat.zero_le _) rfl
    rw [show (w.alloc (.cells #[.int .i64 k0, .string nm, .int .i64 n0, .slice A ts.length ac] 50)).heap.size = w.heap.size + 1 by simp] at this
    exact this
  have ha0 := ha.below hb0
  have HZ := Lib.hid hs0
  have hszw : w.heap.size + 2 ≤ ((w.alloc (.cells #[.int .i64 k0, .string nm, .int .i64 n0, .slice A ts.length ac] 50)).alloc (.cells #[] 9)).heap.size := by omega
  clear hs0 ha q0
  go_enter Tryd.func57, Tryd.ntmps57
  go_wp2
  generalize ((w.alloc (.cells #[.int .i64 k0, .string nm, .int .i64 n0, .slice A ts.length ac] 50)).alloc (.cells #[] 9)) = w0 at *
  have hpw := p0.lt
  go_loopw [3, 4] (fun a i wr => ∃ k : Nat, k ≤ ts.length ∧ i = .int .i64 k ∧ wr.ownsRow (w.heap.size + 1) 9 1 a k (strVals ((bytesOf (txtOs ts)).take k)) ∧ Below (w.heap.size + 1) w0 wr) (fun _ i _ => ts.length - (intOf i).toNat)
  case atStart => exact ⟨0, Nat.zero_le _, rfl, hown0, Below.refl _ _⟩
  case round =>
    obtain ⟨k, hk, rfl, hown, hb⟩ := hrel
    have hbW := hb.mono (Nat.le_succ w.heap.size)
    have p1 := p0.below hb (Nat.lt_succ_self _)
    have c0 : wr.cell? ⟨w.heap.size, 0, none⟩ = some (.int .i64 k0) := p1.cell 0
    have c1 : wr.cell? ⟨w.heap.size, 1, none⟩ = some (.string nm) := p1.cell 1
    have c2 : wr.cell? ⟨w.heap.size, 2, none⟩ = some (.int .i64 n0) := p1.cell 2
    have c3 : wr.cell? ⟨w.heap.size, 3, none⟩ = some (.slice A ts.length ac) := p1.cell 3
    have hbs := hb.size
    have htk3 : ts.length ≤ 1000 := by have := sizeOts_len ts; omega
    by_cases hlt : k < ts.length
    · obtain ⟨b, off, A1, ac1, rfl, hbl, q0, q1, q2, q3, ht⟩ := (ha0.below hbW).elem k hlt
      have htk := sizeOts_take ts k hlt
      have htl := sizeOts_le ts (k + 1)
      have HT := Lib.hid (HALL.out k hlt _ wr (ht.more (by omega)) (HF.out k hlt) (by omega))
      clear ht htk htl
      go_wp2_with fail
      refine HT.out.mono ?_
      rintro e w3 ⟨rfl, hb3'⟩
      have hb3 := hb.trans (hb3'.mono (by omega))
      have HOWN := Lib.hid (own_keep1 (w' := w3) hown (fun g hg => hb3'.block g (hown.lt g hg).2))
      have hs3 := hb3.size
      clear hown p1 c0 c1 c2 c3 q0 q1 q2 q3
      have HPK : Hid ((bytesOf (txtOs ts))[k]'(by rw [HPL.out]; exact hlt) = ⟨(txtO ts[k]).toArray⟩) := Lib.hid (by
        simp only [bytesOf, List.getElem_map, txtOs_map])
      go_wp2_with (at_builtin; refine wpList_append_own _ rfl (.tmp 13) (.tmp 20) _ rfl (w.heap.size + 1) 9 i0 (.string ⟨#[]⟩) 1 16 Tryd.underlying24 hi hz0 hz1 hz2 rfl (by decide) _ _ _ rfl (HOWN.out.alloc _) ⟨w3.heap.size, 0, none⟩ 1 1 [.string ⟨(txtO ts[k]).toArray⟩] rfl rfl (cellNew w3 9 _) (by intro u hu; simp at hu; subst hu; rfl) (by unfold maxLen; omega) (by omega) (by have := hb3.size; simp; omega) ?_; intro v1 w4 hown1 hg1 _)
      go_roundw
      case rel => exact ⟨k + 1, by omega, by go_num, by rw [show strVals ((bytesOf (txtOs ts)).take (k + 1)) = strVals ((bytesOf (txtOs ts)).take k) ++ [.string ⟨(txtO ts[k]).toArray⟩] from by rw [List.take_succ_eq_append_getElem (by rw [HPL.out]; omega), HPK.out]; simp [strVals]]; exact hown1, (hb3.alloc (by omega) _).grown hg1 (by have := hb3.size; simp; omega) (fun q hq => by have := (HOWN.out.lt q hq).1; omega)⟩
      case measure => simp [intOf]; omega
    · have hke : k = ts.length := by omega
      subst hke
      rw [List.take_of_length_le (by rw [HPL.out]; exact Nat.le_refl _)] at hown
      obtain ⟨A3, c5, rfl, hst⟩ := own_strings hown
      have HB := Lib.hid (hb0.trans hbW)
      have hpn : (bytesOf (txtOs ts)).length = ts.length := HPL.out
      have HST := Lib.hid hst
      have HPN := Lib.hid hpn
      clear hown hst p1 ha0
      rcases HFORM.out with ⟨hq0, rfl, rfl, rfl⟩ | ⟨hq0, rfl, hnm, rfl⟩ | ⟨hq0, hn, rfl, rfl⟩ | ⟨rfl, rfl, rfl, t, rfl⟩ | ⟨hq0, rfl, rfl, a, b, rfl⟩
      · rcases hq0 with rfl | rfl | rfl | rfl | rfl
        all_goals
          go_wp2
          go_ret
          exact ⟨by rw [HTX.out]; rfl, HB.out⟩
      · rcases hq0 with rfl | rfl | rfl
        · have hnz := name_len hnm
          have hj0 : ¬ 9223372036854775807 < 1 + nm.size := by omega
          have HE : Hid (txtO (.mk 2 0 nm []) = [46] ++ nm.data.toList) := Lib.hid (by rw [HTX.out]; rfl)
          clear hnm hnz
          go_wp2
          go_ret
          exact ⟨by rw [HE.out, lead_bytes]; rfl, HB.out⟩
        · have hnz := name_len hnm
          have hj0 : ¬ 9223372036854775807 < 1 + nm.size := by omega
          have HE : Hid (txtO (.mk 3 0 nm []) = [63] ++ nm.data.toList) := Lib.hid (by rw [HTX.out]; rfl)
          clear hnm hnz
          go_wp2
          go_ret
          exact ⟨by rw [HE.out, lead_bytes]; rfl, HB.out⟩
        · have hnz := name_len hnm
          have hj0 : ¬ 9223372036854775807 < 5 + nm.size := by omega
          have HE : Hid (txtO (.mk 10 0 nm []) = [119, 114, 97, 112, 32] ++ nm.data.toList) := Lib.hid (by rw [HTX.out]; rfl)
          clear hnm hnz
          go_wp2
          go_ret
          exact ⟨by rw [HE.out, lead_bytes]; rfl, HB.out⟩
      · rcases hq0 with rfl | rfl
        · have hn0 := itoa_len n0 (by omega)
          have hj0 : ¬ 9223372036854775807 < 3 + (Lib.itoa n0).length := by omega
          have HE : Hid (txtO (.mk 6 n0 ⟨#[]⟩ []) = [97, 116, 32] ++ Lib.itoa n0) := Lib.hid (by rw [HTX.out]; rfl)
          have HI := Lib.hid (specFormatInt_any n0 wr (by omega) (by omega))
          clear hn hn0
          go_wp2_with fail
          refine HI.out.mono ?_
          rintro e w5 ⟨rfl, hb5⟩
          go_wp2
          go_ret
          exact ⟨by rw [HE.out, lead_list]; rfl, HB.out.trans (hb5.mono HB.out.size)⟩
        · have hn0 := itoa_len n0 (by omega)
          have hj0 : ¬ 9223372036854775807 < 4 + (Lib.itoa n0).length := by omega
          have HE : Hid (txtO (.mk 7 n0 ⟨#[]⟩ []) = [97, 100, 100, 32] ++ Lib.itoa n0) := Lib.hid (by rw [HTX.out]; rfl)
          have HI := Lib.hid (specFormatInt_any n0 wr (by omega) (by omega))
          clear hn hn0
          go_wp2_with fail
          refine HI.out.mono ?_
          rintro e w5 ⟨rfl, hb5⟩
          go_wp2
          go_ret
          exact ⟨by rw [HE.out, lead_list]; rfl, HB.out.trans (hb5.mono HB.out.size)⟩
      · skip
        have h0 : 0 < (bytesOf (txtOs [t])).length := by rw [HPN.out]; simp
        obtain ⟨b, o, rfl, hbl, hcl⟩ := HST.out 0 h0
        have h0I : (0 : Int) < ((bytesOf (txtOs [t])).length : Int) := by omega
        have e0 : (bytesOf (txtOs [t]))[0] = ⟨(txtO t).toArray⟩ := by simp [bytesOf, txtOs]
        rw [Nat.add_zero, e0] at hcl
        have hTl : (txtO t).length ≤ 24000 := by have := HPS.out; simp [txtOs, sumLens] at this; omega
        have HE : Hid (txtO (.mk 11 0 ⟨#[]⟩ [t]) = [109, 97, 112, 32] ++ txtO t) := Lib.hid (by rw [txtO_11]; rfl)
        generalize txtO t = T at *
        have hj1 : ¬ 9223372036854775807 < 4 + T.length := by omega
        clear hTl e0
        go_wp2
        go_ret
        exact ⟨by rw [HE.out, lead_list]; rfl, HB.out⟩
      · rcases hq0 with rfl | rfl
        · have hJ := Lib.hid (specJoin_any A3 c5 (bytesOf (txtOs [a, b])) ⟨#[59]⟩ wr HST.out (by rw [HPN.out]; omega) (by rw [bytesOf_sum]; have := HPS.out; omega) (by decide))
          have HC : Hid (joinTo (bytesOf (txtOs [a, b])) ⟨#[59]⟩ (bytesOf (txtOs [a, b])).length = txtO a ++ 59 :: txtO b) := Lib.hid (join_pair _ _ _)
          have hJ2 := hJ.out
          rw [HC.out] at hJ2
          have HJ2 := Lib.hid hJ2
          have HE : Hid (txtO (.mk 12 0 ⟨#[]⟩ [a, b]) = 40 :: ((txtO a ++ 59 :: txtO b) ++ [41])) := Lib.hid (by rw [txtO_12]; simp)
          have hjl : (txtO a ++ 59 :: txtO b).length ≤ 48001 := by have := HPS.out; simp [txtOs, sumLens] at this ⊢; omega
          generalize txtO a ++ 59 :: txtO b = J at *
          have hj1 : ¬ 9223372036854775807 < 1 + J.length := by omega
          have hj2 : ¬ 9223372036854775807 < 1 + J.length + 1 := by omega
          clear hJ hJ2 hjl
          go_wp2_with fail
          refine HJ2.out.mono ?_
          rintro e w5 ⟨rfl, hb5⟩
          go_wp2
          go_ret
          exact ⟨by rw [HE.out, byte3]; rfl, HB.out.trans (hb5.mono HB.out.size)⟩
        · have hJ := Lib.hid (specJoin_any A3 c5 (bytesOf (txtOs [a, b])) ⟨#[124]⟩ wr HST.out (by rw [HPN.out]; omega) (by rw [bytesOf_sum]; have := HPS.out; omega) (by decide))
          have HC : Hid (joinTo (bytesOf (txtOs [a, b])) ⟨#[124]⟩ (bytesOf (txtOs [a, b])).length = txtO a ++ 124 :: txtO b) := Lib.hid (join_pair _ _ _)
          have hJ2 := hJ.out
          rw [HC.out] at hJ2
          have HJ2 := Lib.hid hJ2
          have HE : Hid (txtO (.mk 13 0 ⟨#[]⟩ [a, b]) = 40 :: ((txtO a ++ 124 :: txtO b) ++ [41])) := Lib.hid (by rw [txtO_13]; simp)
          have hjl : (txtO a ++ 124 :: txtO b).length ≤ 48001 := by have := HPS.out; simp [txtOs, sumLens] at this ⊢; omega
          generalize txtO a ++ 124 :: txtO b = J at *
          have hj1 : ¬ 9223372036854775807 < 1 + J.length := by omega
          have hj2 : ¬ 9223372036854775807 < 1 + J.length + 1 := by omega
          clear hJ hJ2 hjl
          go_wp2_with fail
          refine HJ2.out.mono ?_
          rintro e w5 ⟨rfl, hb5⟩
          go_wp2
          go_ret
          exact ⟨by rw [HE.out, byte3]; rfl, HB.out.trans (hb5.mono HB.out.size)⟩

theorem specTextO_any (t : Ot) : TextOOne 57 t := by
  induction t using Ot.ind with
  | h k n nm ts ih => exact specTextO_of k n nm ts ih

set_option maxHeartbeats 1000000 in
theorem specFormatO_any (t : Ot) (v : Value) (w : World) (hv : OtAt w w.heap.size v t) (hsz : szOt t ≤ 1048576) : Calls Tryd.prog 23 #[v] w (StrIs (formatOB t) w) := by
  have HX : opticB t = true → Hid (∀ W, Below w.heap.size w W → Calls Tryd.prog 57 #[v] W (StrIs ⟨(txtO t).toArray⟩ W)) := fun h => Lib.hid fun W hb => by
    obtain ⟨h1, _, h3⟩ := opticB_parts h
    exact specTextO_any t v W (hv.up hb) h3 (by omega)
  have hv0 := hv
  obtain ⟨A, ac, rfl, _⟩ := hv.open
  obtain ⟨hb0, p0, hs0⟩ := boxes1 w 50 #[.int .i64 t.kind, .string t.name, .int .i64 t.num, .slice A t.args.length ac]
  have HV := Lib.hid (specIsOptic_any t _ _ (hv0.up hb0) hsz)
  have c0 : (w.alloc (.cells #[.int .i64 t.kind, .string t.name, .int .i64 t.num, .slice A t.args.length ac] 50)).cell? ⟨w.heap.size, 0, none⟩ = some (.int .i64 t.kind) := p0.cell 0
  have c1 : (w.alloc (.cells #[.int .i64 t.kind, .string t.name, .int .i64 t.num, .slice A t.args.length ac] 50)).cell? ⟨w.heap.size, 1, none⟩ = some (.string t.name) := p0.cell 1
  have c2 : (w.alloc (.cells #[.int .i64 t.kind, .string t.name, .int .i64 t.num, .slice A t.args.length ac] 50)).cell? ⟨w.heap.size, 2, none⟩ = some (.int .i64 t.num) := p0.cell 2
  have c3 : (w.alloc (.cells #[.int .i64 t.kind, .string t.name, .int .i64 t.num, .slice A t.args.length ac] 50)).cell? ⟨w.heap.size, 3, none⟩ = some (.slice A t.args.length ac) := p0.cell 3
  clear hv hv0 hs0
  cases hvb : opticB t
  · rw [hvb] at HV
    have HE : Hid (formatOB t = ⟨#[]⟩) := Lib.hid (by unfold formatOB; rw [hvb]; rfl)
    clear HX hvb
    go_enter Tryd.func23, Tryd.ntmps23
    go_wp2_with fail
    generalize (w.alloc (.cells #[.int .i64 t.kind, .string t.name, .int .i64 t.num, .slice A t.args.length ac] 50)) = w0 at *
    refine HV.out.mono ?_
    rintro e w1 ⟨rfl, hb1⟩
    go_wp2
    go_ret
    exact ⟨by rw [HE.out]; rfl, hb0.trans (hb1.mono hb0.size)⟩
  · rw [hvb] at HV
    have HE : Hid (formatOB t = ⟨(txtO t).toArray⟩) := Lib.hid (by unfold formatOB; rw [hvb]; rfl)
    have HX2 := HX hvb
    clear HX hvb
    go_enter Tryd.func23, Tryd.ntmps23
    go_wp2_with fail
    generalize (w.alloc (.cells #[.int .i64 t.kind, .string t.name, .int .i64 t.num, .slice A t.args.length ac] 50)) = w0 at *
    refine HV.out.mono ?_
    rintro e w1 ⟨rfl, hb1⟩
    have hb01 := hb0.trans (hb1.mono hb0.size)
    have HX3 := Lib.hid (HX2.out w1 hb01)
    have p1 := p0.below hb1 p0.lt
    have d0 : w1.cell? ⟨w.heap.size, 0, none⟩ = some (.int .i64 t.kind) := p1.cell 0
    have d1 : w1.cell? ⟨w.heap.size, 1, none⟩ = some (.string t.name) := p1.cell 1
    have d2 : w1.cell? ⟨w.heap.size, 2, none⟩ = some (.int .i64 t.num) := p1.cell 2
    have d3 : w1.cell? ⟨w.heap.size, 3, none⟩ = some (.slice A t.args.length ac) := p1.cell 3
    clear p1 c0 c1 c2 c3
    go_wp2_with fail
    refine HX3.out.mono ?_
    rintro e w2 ⟨rfl, hb2⟩
    go_wp2
    go_ret
    exact ⟨by rw [HE.out]; rfl, hb01.trans (hb2.mono hb01.size)⟩

end Go.Proofs.YtlmbnefoobameaaDoor
end

section
namespace Go.Proofs.YtlmbnefoobameaaDoor
open Go.RowKit

abbrev zeroOt : Ot := .mk 0 0 ⟨#[]⟩ []
/-- The optic of the text, or nothing, is handed back. -/
def ParsePostO (s : ByteArray) (w : World) (e : Ending) (w' : World) : Prop :=
  ∃ v, e = .returned (.tuple #[v, .bool (parseOB s).isSome]) ∧ OtIn w' (Span w.heap.size w'.heap.size) v ((parseOB s).getD zeroOt) ∧ Below w.heap.size w w'
theorem oIn_set4 {w W : World} {lo hi : Nat} {v : Value} {t : Ot} (h : OtIn W (Span lo hi) v t) (hlo : w.heap.size + 1 ≤ lo) (hhi : hi ≤ W.heap.size) (a b c d : Value) : OtIn ((((W.setCell ⟨w.heap.size, 0, none⟩ a).setCell ⟨w.heap.size, 1, none⟩ b).setCell ⟨w.heap.size, 2, none⟩ c).setCell ⟨w.heap.size, 3, none⟩ d) (Span w.heap.size ((((W.setCell ⟨w.heap.size, 0, none⟩ a).setCell ⟨w.heap.size, 1, none⟩ b).setCell ⟨w.heap.size, 2, none⟩ c).setCell ⟨w.heap.size, 3, none⟩ d).heap.size) v t :=
  (h.keep fun q hq _ => oset4_keep _ _ _ _ _ _ _ (by have := hq.1; omega)).wide fun q hq => ⟨by have := hq.1; omega, by have := hq.2; simp [World.setCell]; omega⟩
theorem ozero_in (w : World) (S : Nat → Prop) : OtIn w S (.agg #[.int .i64 0, .string ⟨#[]⟩, .int .i64 0, .slice none 0 0]) zeroOt :=
  .mk 1 (fun _ => .nilFunc) (fun _ _ => False) (Nat.zero_le _) (Nat.zero_le _) (.inl rfl) (fun i h => absurd h (by simp)) (fun i _ h => absurd h (by simp)) (fun i h => absurd h (by simp))
theorem parseO_sz (s : ByteArray) : szOt ((parseOB s).getD zeroOt) ≤ s.size := by
  unfold parseOB
  split
  · rename_i t e
    obtain ⟨h1, h2⟩ := rdOt_sound 10 _ _ _ e
    have h4 := congrArg List.length h1
    have h3 : s.data.toList.length = s.size := by simp
    rw [List.append_nil, h3] at h4
    split
    · show szOt t ≤ s.size
      omega
    · simp [zeroOt, szOt, szOts, emptySize0]
  · simp [zeroOt, szOt, szOts, emptySize0]

end Go.Proofs.YtlmbnefoobameaaDoor
end

section
namespace Go.Proofs.YtlmbnefoobameaaDoor
open Go.RowKit
attribute [local go_sem ↓] Go.wp_at_zero Go.wp_at_succ

theorem rest_zeroO (s : ByteArray) : restOf s 0 = s.data.toList := by simp [restOf]
theorem below_readerO {w w1 W : World} {p : Nat} (hb : Below w.heap.size w w1) (hg : w1.grownBy W (some p)) (hp : w.heap.size ≤ p) : Below w.heap.size w W :=
  ⟨hg.os.trans hb.os, hg.tape.trans hb.tape, hg.output.trans hb.output, Nat.le_trans hb.size hg.size, fun q hq => (hg.block q (Nat.lt_of_lt_of_le hq hb.size) (fun e => by injection e with e; omega)).trans (hb.block q hq)⟩

set_option maxHeartbeats 4000000 in
set_option maxRecDepth 100000 in
theorem specParseO_any (s : ByteArray) (w : World) (hs : s.size ≤ 1048576) : Calls Tryd.prog 27 #[.string s] w (ParsePostO s w) := by
  obtain ⟨hb0, r0, q0, hs0⟩ := boxes2 w 50 82 #[.int .i64 0, .string ⟨#[]⟩, .int .i64 0, .slice none 0 0] #[.string s, .int .i64 0, .bool false]
  have HT : OR.TypeOne 10 1 := OR.typeOne 10 (Nat.le_refl _)
  have hR : RdAt ((w.alloc (.cells #[.int .i64 0, .string ⟨#[]⟩, .int .i64 0, .slice none 0 0] 50)).alloc (.cells #[.string s, .int .i64 0, .bool false] 82)) (w.heap.size + 1) s 0 false := ⟨q0, Nat.zero_le _⟩
  have HQ := Lib.hid hR
  have HRZ := Lib.hid r0
  have HSZ := Lib.hid hs0
  cases hrd : rdOt 10 (restOf s 0) with
  | none =>
    have HNO : Hid (parseOB s = none) := Lib.hid (by
      unfold parseOB
      rw [← rest_zeroO, hrd])
    have HC := Lib.hid (HT.bad _ _ 0 s false hR hs (.inr hrd))
    clear hR HT r0 q0 hs0 hrd
    go_enter Tryd.func27, Tryd.ntmps27
    go_wp2_with fail
    generalize (w.alloc (.cells #[.int .i64 0, .string ⟨#[]⟩, .int .i64 0, .slice none 0 0] 50)).alloc (.cells #[.string s, .int .i64 0, .bool false] 82) = w1 at *
    refine HC.out.mono ?_
    rintro e w2 ⟨x, nm, y, A, m, ac, j, rfl, hr2, hg2⟩
    have hb2 := below_readerO hb0 hg2 (by omega)
    have hzl := HRZ.out.lt
    have hz2 : OR.ZeroBox w2 w.heap.size := (hg2.block w.heap.size hzl (fun e => by injection e with e; omega)).trans HRZ.out
    have hb3 := (Below.refl w2.heap.size w2).alloc (Nat.le_refl _) (.cells #[.int .i64 x, .string nm, .int .i64 y, .slice A m ac] 50)
    have hr3 := hr2.below hb3 hr2.lt
    have hz3 := hz2.below hb3 hz2.lt
    have hB3 := hb2.trans (hb3.mono hb2.size)
    clear hr2 hz2 hb3 hb2 hg2
    go_upto_region 3 with fail
    generalize w2.alloc (.cells #[.int .i64 x, .string nm, .int .i64 y, .slice A m ac] 50) = w3 at *
    have b2 : w3.cell? ⟨w.heap.size + 1, 2, none⟩ = some (.bool true) := Whole1.cell hr3.1 2
    have d0 : w3.cell? ⟨w.heap.size, 0, none⟩ = some (.int .i64 0) := (hz3).cell 0
    have d1 : w3.cell? ⟨w.heap.size, 1, none⟩ = some (.string ⟨#[]⟩) := (hz3).cell 1
    have d2 : w3.cell? ⟨w.heap.size, 2, none⟩ = some (.int .i64 0) := (hz3).cell 2
    have d3 : w3.cell? ⟨w.heap.size, 3, none⟩ = some (.slice none 0 0) := (hz3).cell 3
    have f0 : w3.frozen? ⟨w.heap.size, 0, none⟩ = false := (hz3).free 0
    have f1 : w3.frozen? ⟨w.heap.size, 1, none⟩ = false := (hz3).free 1
    have f2 : w3.frozen? ⟨w.heap.size, 2, none⟩ = false := (hz3).free 2
    have f3 : w3.frozen? ⟨w.heap.size, 3, none⟩ = false := (hz3).free 3
    have HB3 := Lib.hid hB3
    clear hr3 hz3 hB3
    go_wp2
    exact bodyPost_ret (v := .tuple #[.agg #[.int .i64 0, .string ⟨#[]⟩, .int .i64 0, .slice none 0 0], .bool false]) (by simp [results, Tryd.results27, go_sem, d0, d1, d2, d3]) rfl ⟨_, by rw [HNO.out]; rfl, by rw [HNO.out]; exact ozero_in _ _, HB3.out.trans (oset4_below _ _ _ _ _ _)⟩
  | some tr =>
    obtain ⟨t, r⟩ := tr
    have hsd := rdOt_sound 10 _ _ _ hrd
    rw [rest_zeroO] at hsd
    have hlen : (txtO t).length ≤ s.size := by
      have h1 := congrArg List.length hsd.1
      rw [List.length_append] at h1
      have h2 : s.data.toList.length = s.size := by simp
      omega
    have HSD := Lib.hid hsd.1
    have hszt : szOt t ≤ 1048576 := by have := hsd.2; omega
    have hpos : 1 ≤ s.size := by have := hsd.2; omega
    have HRD := Lib.hid hrd
    have HC := Lib.hid (HT.good _ _ 0 s t r hR hs hrd)
    clear hR HT r0 q0 hs0 hrd hsd
    go_enter Tryd.func27, Tryd.ntmps27
    go_wp2_with fail
    generalize (w.alloc (.cells #[.int .i64 0, .string ⟨#[]⟩, .int .i64 0, .slice none 0 0] 50)).alloc (.cells #[.string s, .int .i64 0, .bool false] 82) = w1 at *
    refine HC.out.mono ?_
    rintro e w2 ⟨v, j, rfl, hrr, hr2, hO2, hg2⟩
    have hI2 := hO2.owned
    obtain ⟨A, ac, rfl⟩ := hO2.open
    have hb2 := below_readerO hb0 hg2 (by omega)
    have hzl := HRZ.out.lt
    have hs1 := hb0.size
    have hz2 : OR.ZeroBox w2 w.heap.size := (hg2.block w.heap.size hzl (fun e => by injection e with e; omega)).trans HRZ.out
    obtain ⟨hb3, t3, hs3⟩ := boxes1 w2 50 #[.int .i64 t.kind, .string t.name, .int .i64 t.num, .slice A t.args.length ac]
    have hr3 := hr2.below hb3 hr2.lt
    have hz3 := hz2.below hb3 hz2.lt
    have hB3 := hb2.trans (hb3.mono hb2.size)
    have hI3 := hI2.keep (w' := w2.alloc (.cells #[.int .i64 t.kind, .string t.name, .int .i64 t.num, .slice A t.args.length ac] 50)) fun b hb hl => hb3.block b hl
    have hg2s := hg2.size
    clear hr2 hz2 hb2 hg2 hI2 hO2
    go_upto_region 3 with fail
    have HS3 := Lib.hid hs3
    clear hs3
    generalize w2.alloc (.cells #[.int .i64 t.kind, .string t.name, .int .i64 t.num, .slice A t.args.length ac] 50) = w3 at *
    have hjl := hr3.2
    have b1 : w3.cell? ⟨w.heap.size + 1, 1, none⟩ = some (.int .i64 (j : Int)) := Whole1.cell hr3.1 1
    have b2 : w3.cell? ⟨w.heap.size + 1, 2, none⟩ = some (.bool false) := Whole1.cell hr3.1 2
    have e0 : w3.cell? ⟨w2.heap.size, 0, none⟩ = some (.int .i64 t.kind) := t3.cell 0
    have e1 : w3.cell? ⟨w2.heap.size, 1, none⟩ = some (.string t.name) := t3.cell 1
    have e2 : w3.cell? ⟨w2.heap.size, 2, none⟩ = some (.int .i64 t.num) := t3.cell 2
    have e3 : w3.cell? ⟨w2.heap.size, 3, none⟩ = some (.slice A t.args.length ac) := t3.cell 3
    have HB3 := Lib.hid hB3
    have HT3 := Lib.hid t3
    have HZ3 := Lib.hid hz3
    have HI3 := Lib.hid hI3
    by_cases hj : j = s.size
    · subst hj
      have hr0 : r = [] := by rw [hrr]; exact restOf_end s _ (Nat.le_refl _)
      subst hr0
      have hst : s = ⟨(txtO t).toArray⟩ := by
        apply ByteArray.ext
        apply Array.toList_inj.1
        have := HSD.out
        rw [List.append_nil] at this
        rw [this]
      have HST := Lib.hid hst
      have HF := Lib.hid (specFormatO_any t _ w3 hI3.here hszt)
      have hneq : ((s.size : Int) == (s.size : Int)) = true := by simp
      clear hB3 hr3 hz3 hI3 hst hrr t3
      go_wp2_with fail
      refine HF.out.mono ?_
      rintro e w4 ⟨rfl, hb4⟩
      have HB4 := Lib.hid (HB3.out.trans (hb4.mono HB3.out.size))
      have hz4 := HZ3.out.below hb4 HZ3.out.lt
      have HI4 := Lib.hid (HI3.out.keep fun b hb hl => hb4.block b hl)
      have hs4 := hb4.size
      have t4 := HT3.out.below hb4 HT3.out.lt
      have q0 : w4.cell? ⟨w2.heap.size, 0, none⟩ = some (.int .i64 t.kind) := t4.cell 0
      have q1 : w4.cell? ⟨w2.heap.size, 1, none⟩ = some (.string t.name) := t4.cell 1
      have q2 : w4.cell? ⟨w2.heap.size, 2, none⟩ = some (.int .i64 t.num) := t4.cell 2
      have q3 : w4.cell? ⟨w2.heap.size, 3, none⟩ = some (.slice A t.args.length ac) := t4.cell 3
      have d0 : w4.cell? ⟨w.heap.size, 0, none⟩ = some (.int .i64 0) := (hz4).cell 0
      have d1 : w4.cell? ⟨w.heap.size, 1, none⟩ = some (.string ⟨#[]⟩) := (hz4).cell 1
      have d2 : w4.cell? ⟨w.heap.size, 2, none⟩ = some (.int .i64 0) := (hz4).cell 2
      have d3 : w4.cell? ⟨w.heap.size, 3, none⟩ = some (.slice none 0 0) := (hz4).cell 3
      have f0 : w4.frozen? ⟨w.heap.size, 0, none⟩ = false := (hz4).free 0
      have f1 : w4.frozen? ⟨w.heap.size, 1, none⟩ = false := (hz4).free 1
      have f2 : w4.frozen? ⟨w.heap.size, 2, none⟩ = false := (hz4).free 2
      have f3 : w4.frozen? ⟨w.heap.size, 3, none⟩ = false := (hz4).free 3
      have hs3 := HS3.out
      cases hvb : opticB t
      · have hfb : formatOB t = ⟨#[]⟩ := by unfold formatOB; rw [hvb]; rfl
        have HNO : Hid (parseOB s = none) := Lib.hid (by
          unfold parseOB
          rw [← rest_zeroO, HRD.out]
          simp [hvb])
        have hne : ((formatOB t).toList == s.toList) = false := by
          rw [hfb, beq_eq_false_iff_ne, ByteArray.toList_eq, ByteArray.toList_eq]
          intro e
          have h1 := congrArg List.length e
          have h2 : s.data.toList.length = s.size := by simp
          rw [h2] at h1
          simp at h1
          omega
        clear hfb hvb hz4 t4 e0 e1 e2 e3 b1 b2
        generalize formatOB t = fb at *
        go_wp2
        exact bodyPost_ret (v := .tuple #[.agg #[.int .i64 0, .string ⟨#[]⟩, .int .i64 0, .slice none 0 0], .bool false]) (by simp [results, Tryd.results27, go_sem, d0, d1, d2, d3]) rfl ⟨_, by rw [HNO.out]; rfl, by rw [HNO.out]; exact ozero_in _ _, HB4.out.trans (oset4_below _ _ _ _ _ _)⟩
      · have hfb : formatOB t = s := by unfold formatOB; rw [hvb, HST.out]; rfl
        have HYES : Hid (parseOB s = some t) := Lib.hid (by
          unfold parseOB
          rw [← rest_zeroO, HRD.out]
          simp [hvb])
        have hne : ((formatOB t).toList == s.toList) = true := by rw [hfb]; simp
        clear hvb hz4 t4 e0 e1 e2 e3 b1 b2
        generalize formatOB t = fb at *
        go_wp2
        exact bodyPost_ret (v := .tuple #[.agg #[.int .i64 t.kind, .string t.name, .int .i64 t.num, .slice A t.args.length ac], .bool true]) (by simp [results, Tryd.results27, go_sem, d0, d1, d2, d3]) rfl ⟨_, by rw [HYES.out]; rfl, by rw [HYES.out]; exact oIn_set4 HI4.out (by omega) (by omega) _ _ _ _, HB4.out.trans (oset4_below _ _ _ _ _ _)⟩
    · have hneq : ((j : Int) == (s.size : Int)) = false := by rw [beq_eq_false_iff_ne]; omega
      have HNO : Hid (parseOB s = none) := Lib.hid (by
        have hne : r ≠ [] := by
          intro e
          have := congrArg List.length (hrr.symm.trans e)
          rw [restOf_len] at this
          simp at this
          omega
        unfold parseOB
        rw [← rest_zeroO, HRD.out]
        cases r with
        | nil => exact absurd rfl hne
        | cons a q => rfl)
      have d0 : w3.cell? ⟨w.heap.size, 0, none⟩ = some (.int .i64 0) := (hz3).cell 0
      have d1 : w3.cell? ⟨w.heap.size, 1, none⟩ = some (.string ⟨#[]⟩) := (hz3).cell 1
      have d2 : w3.cell? ⟨w.heap.size, 2, none⟩ = some (.int .i64 0) := (hz3).cell 2
      have d3 : w3.cell? ⟨w.heap.size, 3, none⟩ = some (.slice none 0 0) := (hz3).cell 3
      have f0 : w3.frozen? ⟨w.heap.size, 0, none⟩ = false := (hz3).free 0
      have f1 : w3.frozen? ⟨w.heap.size, 1, none⟩ = false := (hz3).free 1
      have f2 : w3.frozen? ⟨w.heap.size, 2, none⟩ = false := (hz3).free 2
      have f3 : w3.frozen? ⟨w.heap.size, 3, none⟩ = false := (hz3).free 3
      clear hB3 hr3 hz3 hI3 t3
      go_wp2
      exact bodyPost_ret (v := .tuple #[.agg #[.int .i64 0, .string ⟨#[]⟩, .int .i64 0, .slice none 0 0], .bool false]) (by simp [results, Tryd.results27, go_sem, d0, d1, d2, d3]) rfl ⟨_, by rw [HNO.out]; rfl, by rw [HNO.out]; exact ozero_in _ _, HB3.out.trans (oset4_below _ _ _ _ _ _)⟩

end Go.Proofs.YtlmbnefoobameaaDoor
end

section
namespace Go.Proofs
open Go.Shelf
def Tryd.laysC172_ren : Go.Shelf.Ren := ⟨fun | 172 => 162 | 244 => 168 | 245 => 169 | 247 => 172 | 279 => 173 | 280 => 174 | 281 => 175 | 282 => 176 | 287 => 177 | 316 => 122 | 171 => 133 | 205 => 178 | 321 => 179 | 322 => 180 | 243 => 146 | 246 => 154 | 283 => 158 | 284 => 159 | 285 => 160 | 286 => 161 | 129 => 164 | 317 => 163 | 318 => 165 | 319 => 166 | 320 => 167 | 337 => 170 | 338 => 171 | n => n, fun | 9 => 9 | 3 => 3 | 75 => 202 | 76 => 203 | 4 => 4 | 5 => 5 | 167 => 212 | 37 => 22 | 0 => 0 | 85 => 213 | 2 => 2 | 168 => 215 | 53 => 196 | 175 => 220 | 46 => 151 | 210 => 223 | 127 => 176 | 145 => 228 | 143 => 226 | 21 => 21 | 171 => 195 | 173 => 199 | 212 => 205 | 51 => 206 | 20 => 20 | 213 => 207 | 232 => 218 | 233 => 219 | 80 => 229 | n => n, fun | 15 => 4 | 16 => 5 | 17 => 1 | 18 => 2 | 19 => 3 | n => n⟩
theorem Tryd.laysC172 : Go.Proofs.LaysC.n172 Tryd.prog Tryd.laysC172_ren := {
  mixed := by kernel_rfl
  f129 := Tryd.func164.trans (congrArg some (by kernel_rfl))
  f171 := Tryd.func133.trans (congrArg some (by kernel_rfl))
  f172 := Tryd.func162.trans (congrArg some (by kernel_rfl))
  f205 := Tryd.func178.trans (congrArg some (by kernel_rfl))
  f243 := Tryd.func146.trans (congrArg some (by kernel_rfl))
  f244 := Tryd.func168.trans (congrArg some (by kernel_rfl))
  f245 := Tryd.func169.trans (congrArg some (by kernel_rfl))
  f246 := Tryd.func154.trans (congrArg some (by kernel_rfl))
  f247 := Tryd.func172.trans (congrArg some (by kernel_rfl))
  f279 := Tryd.func173.trans (congrArg some (by kernel_rfl))
  f280 := Tryd.func174.trans (congrArg some (by kernel_rfl))
  f281 := Tryd.func175.trans (congrArg some (by kernel_rfl))
  f282 := Tryd.func176.trans (congrArg some (by kernel_rfl))
  f283 := Tryd.func158.trans (congrArg some (by kernel_rfl))
  f284 := Tryd.func159.trans (congrArg some (by kernel_rfl))
  f285 := Tryd.func160.trans (congrArg some (by kernel_rfl))
  f286 := Tryd.func161.trans (congrArg some (by kernel_rfl))
  f287 := Tryd.func177.trans (congrArg some (by kernel_rfl))
  f316 := Tryd.func122.trans (congrArg some (by kernel_rfl))
  f317 := Tryd.func163.trans (congrArg some (by kernel_rfl))
  f318 := Tryd.func165.trans (congrArg some (by kernel_rfl))
  f319 := Tryd.func166.trans (congrArg some (by kernel_rfl))
  f320 := Tryd.func167.trans (congrArg some (by kernel_rfl))
  f321 := Tryd.func179.trans (congrArg some (by kernel_rfl))
  f322 := Tryd.func180.trans (congrArg some (by kernel_rfl))
  f337 := Tryd.func170.trans (congrArg some (by kernel_rfl))
  f338 := Tryd.func171.trans (congrArg some (by kernel_rfl))
  t0 := Tryd.underlying0
  a0 := Tryd.isAgg0
  z0 := Tryd.sizeOf0
  v0 := Tryd.zeroValue0
  t2 := Tryd.underlying2
  a2 := Tryd.isAgg2
  z2 := Tryd.sizeOf2
  v2 := Tryd.zeroValue2
  t3 := Tryd.underlying3
  a3 := Tryd.isAgg3
  z3 := Tryd.sizeOf3
  v3 := Tryd.zeroValue3
  t4 := Tryd.underlying4
  a4 := Tryd.isAgg4
  z4 := Tryd.sizeOf4
  v4 := Tryd.zeroValue4
  t5 := Tryd.underlying5
  a5 := Tryd.isAgg5
  z5 := Tryd.sizeOf5
  v5 := Tryd.zeroValue5
  t9 := Tryd.underlying9
  a9 := Tryd.isAgg9
  z9 := Tryd.sizeOf9
  v9 := Tryd.zeroValue9
  t20 := Tryd.underlying20
  a20 := Tryd.isAgg20
  z20 := Tryd.sizeOf20
  v20 := Tryd.zeroValue20
  t21 := Tryd.underlying21
  a21 := Tryd.isAgg21
  z21 := Tryd.sizeOf21
  v21 := Tryd.zeroValue21
  t37 := Tryd.underlying22
  a37 := Tryd.isAgg22
  z37 := Tryd.sizeOf22
  v37 := Tryd.zeroValue22
  t46 := Tryd.underlying151
  a46 := Tryd.isAgg151
  z46 := Tryd.sizeOf151
  v46 := Tryd.zeroValue151
  t51 := Tryd.underlying206
  a51 := Tryd.isAgg206
  z51 := Tryd.sizeOf206
  v51 := Tryd.zeroValue206
  t53 := Tryd.underlying196
  a53 := Tryd.isAgg196
  z53 := Tryd.sizeOf196
  v53 := Tryd.zeroValue196
  t75 := Tryd.underlying202
  a75 := Tryd.isAgg202
  z75 := Tryd.sizeOf202
  v75 := Tryd.zeroValue202
  t76 := Tryd.underlying203
  a76 := Tryd.isAgg203
  z76 := Tryd.sizeOf203
  v76 := Tryd.zeroValue203
  t85 := Tryd.underlying213
  a85 := Tryd.isAgg213
  z85 := Tryd.sizeOf213
  v85 := Tryd.zeroValue213
  t127 := Tryd.underlying176
  a127 := Tryd.isAgg176
  z127 := Tryd.sizeOf176
  v127 := Tryd.zeroValue176
  t143 := Tryd.underlying226
  a143 := Tryd.isAgg226
  z143 := Tryd.sizeOf226
  v143 := Tryd.zeroValue226
  t145 := Tryd.underlying228
  a145 := Tryd.isAgg228
  z145 := Tryd.sizeOf228
  v145 := Tryd.zeroValue228
  t167 := Tryd.underlying212
  a167 := Tryd.isAgg212
  z167 := Tryd.sizeOf212
  v167 := Tryd.zeroValue212
  t168 := Tryd.underlying215
  a168 := Tryd.isAgg215
  z168 := Tryd.sizeOf215
  v168 := Tryd.zeroValue215
  t171 := Tryd.underlying195
  a171 := Tryd.isAgg195
  z171 := Tryd.sizeOf195
  v171 := Tryd.zeroValue195
  t173 := Tryd.underlying199
  a173 := Tryd.isAgg199
  z173 := Tryd.sizeOf199
  v173 := Tryd.zeroValue199
  t175 := Tryd.underlying220
  a175 := Tryd.isAgg220
  z175 := Tryd.sizeOf220
  v175 := Tryd.zeroValue220
  t210 := Tryd.underlying223
  a210 := Tryd.isAgg223
  z210 := Tryd.sizeOf223
  v210 := Tryd.zeroValue223
  t212 := Tryd.underlying205
  a212 := Tryd.isAgg205
  z212 := Tryd.sizeOf205
  v212 := Tryd.zeroValue205
  t213 := Tryd.underlying207
  a213 := Tryd.isAgg207
  z213 := Tryd.sizeOf207
  t232 := Tryd.underlying218
  a232 := Tryd.isAgg218
  z232 := Tryd.sizeOf218
  v232 := Tryd.zeroValue218
  t233 := Tryd.underlying219
  a233 := Tryd.isAgg219
  z233 := Tryd.sizeOf219
  v233 := Tryd.zeroValue219
  g15 := by kernel_rfl
  g16 := by kernel_rfl
  g17 := by kernel_rfl
  g18 := by kernel_rfl
  g19 := by kernel_rfl
  t80 := Tryd.underlying229
  a80 := Tryd.isAgg229
  z80 := Tryd.sizeOf229
  v80 := Tryd.zeroValue229
  i0 := by kernel_rfl
  i2 := by kernel_rfl
  i3 := by kernel_rfl
  i4 := by kernel_rfl
  i5 := by kernel_rfl
  i9 := by kernel_rfl
  i20 := by kernel_rfl
  i21 := by kernel_rfl
  i37 := by kernel_rfl
  i46 := by kernel_rfl
  i51 := by kernel_rfl
  i53 := by kernel_rfl
  i75 := by kernel_rfl
  i76 := by kernel_rfl
  i80 := by kernel_rfl
  i85 := by kernel_rfl
  i127 := by kernel_rfl
  i143 := by kernel_rfl
  i145 := by kernel_rfl
  i167 := by kernel_rfl
  i168 := by kernel_rfl
  i171 := by kernel_rfl
  i173 := by kernel_rfl
  i175 := by kernel_rfl
  i210 := by kernel_rfl
  i212 := by kernel_rfl
  i232 := by kernel_rfl
  i233 := by kernel_rfl
  m15 := by kernel_rfl
  m16 := by kernel_rfl
  m17 := by kernel_rfl
  m18 := by kernel_rfl
  m19 := by kernel_rfl
  c0 := by kernel_rfl
  c2 := by kernel_rfl
  c3 := by kernel_rfl
  c4 := by kernel_rfl
  c5 := by kernel_rfl
  c9 := by kernel_rfl
  c20 := by kernel_rfl
  c21 := by kernel_rfl
  c37 := by kernel_rfl
  c46 := by kernel_rfl
  c51 := by kernel_rfl
  c53 := by kernel_rfl
  c75 := by kernel_rfl
  c76 := by kernel_rfl
  c80 := by kernel_rfl
  c85 := by kernel_rfl
  c127 := by kernel_rfl
  c143 := by kernel_rfl
  c145 := by kernel_rfl
  c167 := by kernel_rfl
  c168 := by kernel_rfl
  c171 := by kernel_rfl
  c173 := by kernel_rfl
  c175 := by kernel_rfl
  c210 := by kernel_rfl
  c212 := by kernel_rfl
  c213 := by kernel_rfl
  c232 := by kernel_rfl
  c233 := by kernel_rfl }
end Go.Proofs
end

section
namespace Go.Proofs.YtlmbnefoobameaaDoor
open Go.RowKit Go.Shelf

/-- The two sentinels of strconv hold values that are not nil. -/
def ErrsAt (w : World) : Prop := (∃ t p, w.var? Tryd.prog "strconv.ErrSyntax" = some #[.iface t p]) ∧ ∃ t p, w.var? Tryd.prog "strconv.ErrRange" = some #[.iface t p]

theorem var_below {w w' : World} {B : Nat} {n : String} {g : Nat} (hb : Below B w w') (hg : Tryd.prog.globalNamed n = some g) (hB : g < B) : w'.var? Tryd.prog n = w.var? Tryd.prog n := by
  unfold World.var?
  rw [hg, Option.bind_some, Option.bind_some, hb.block _ hB]

theorem var_lt {w : World} {n : String} {g : Nat} {cs : Array Value} (hg : Tryd.prog.globalNamed n = some g) (h : w.var? Tryd.prog n = some cs) : g < w.heap.size := by
  unfold World.var? at h
  rw [hg, Option.bind_some] at h
  by_cases hlt : g < w.heap.size
  · exact hlt
  · rw [Array.getElem?_eq_none (by omega)] at h
    cases h

theorem ErrsAt.below {w w' : World} {B : Nat} (h : ErrsAt w) (hb : Below B w w') (hB : 4 < B ∧ 5 < B) : ErrsAt w' := by
  obtain ⟨⟨t, p, h1⟩, ⟨t', p', h2⟩⟩ := h
  exact ⟨⟨t, p, (var_below hb (by kernel_rfl) hB.1).trans h1⟩, ⟨t', p', (var_below hb (by kernel_rfl) hB.2).trans h2⟩⟩

theorem atoi_ok (s : ByteArray) (w : World) (hs : s.size ≤ 1048576) (v : Int) (h : Lib.atoiAll s.data.toList = .ok v) :
    Calls Tryd.prog 162 #[.string s] w fun e w' => e = .returned (.tuple #[.int .i64 v, .nilIface]) ∧ Below w.heap.size w w' := by
  refine (Any.strconv_Atoi_ok Tryd.laysC172 s (by omega) v h w).mono fun e w' ⟨he, hw⟩ => ⟨he, ?_⟩
  rcases hw with rfl | ⟨t, rfl⟩
  · exact Below.refl _ _
  · exact Lib.bytesWorld_below _ _ _

/-- An error comes back. -/
def AtoiErr (w : World) (e : Ending) (w' : World) : Prop := ∃ n t p, e = .returned (.tuple #[.int .i64 n, .iface t (.pointer (some p))]) ∧ Below w.heap.size w w'

theorem atoi_err (s : ByteArray) (w : World) (hs : s.size ≤ 1048576) (hE : ErrsAt w) (h : ∀ v, Lib.atoiAll s.data.toList ≠ .ok v) :
    Calls Tryd.prog 162 #[.string s] w (AtoiErr w) := by
  obtain ⟨⟨t, p, h1⟩, ⟨t', p', h2⟩⟩ := hE
  rcases h0 : Lib.atoiAll s.data.toList with v | _ | _
  · exact absurd h0 (h v)
  · exact (Any.strconv_Atoi_syntax_var Tryd.laysC172 s (by omega) h0 t p w h1).mono fun e w' ⟨N, he, _, _, hb⟩ => ⟨_, _, _, he, hb⟩
  · exact (Any.strconv_Atoi_range_var Tryd.laysC172 s (by omega) h0 t' p' w h2).mono fun e w' ⟨N, he, _, _, hb⟩ => ⟨_, _, _, he, hb⟩

end Go.Proofs.YtlmbnefoobameaaDoor
end

section
namespace Go.Proofs.YtlmbnefoobameaaDoor
open Go.RowKit

/-- A panic. -/
def Panics (w : World) (e : Ending) (w' : World) : Prop := (∃ t v, e = .panicked [{ v := .iface t v, recovered := false }]) ∧ Below w.heap.size w w'

theorem str_of_list {s : ByteArray} {l : List UInt8} (h : s.data.toList = l) : s = ⟨l.toArray⟩ := by
  cases s
  simp at h
  subst h
  simp

set_option maxHeartbeats 400000 in
theorem within_yes (s : ByteArray) (lo hi n : Int) (w : World) (hs : s.size ≤ 1048576) (h0 : lo ≤ n) (h1 : n ≤ hi) (hlo : -(2 ^ 63) ≤ lo) (hhi : hi ≤ 2 ^ 63 - 1) (hn : s.data.toList = Lib.itoa n) (ht : Pow10At w) (hsz : 1 < w.heap.size) :
    Calls Tryd.prog 157 #[.string s, .int .i64 lo, .int .i64 hi] w fun e w' => e = .returned (.int .i64 n) ∧ Below w.heap.size w w' := by
  have ha := Lib.hid (atoi_ok s w hs n (by rw [hn]; exact atoi_itoa n (by omega) (by omega)))
  obtain rfl := str_of_list hn
  clear hn
  have hl1 : ¬ n < lo := by omega
  have hl2 : ¬ hi < n := by omega
  go_enter Tryd.func157, Tryd.ntmps157
  go_wp2_with fail
  refine ha.out.mono ?_
  rintro e w1 ⟨rfl, hb1⟩
  have ht1 := Lib.hid (implFormatInt_any n w1 (by omega) (by omega) (ht.below hb1 hsz))
  clear ht ha
  go_wp2_with fail
  refine ht1.out.mono ?_
  rintro e w2 ⟨rfl, hb2⟩
  go_wp2
  go_ret
  exact ⟨rfl, hb1.trans (hb2.mono hb1.size)⟩

set_option maxHeartbeats 400000 in
theorem within_no (s : ByteArray) (lo hi : Int) (w : World) (hs : s.size ≤ 1048576) (hlo : -(2 ^ 63) ≤ lo) (hhi : hi ≤ 2 ^ 63 - 1) (hn : ∀ n, lo ≤ n → n ≤ hi → s.data.toList ≠ Lib.itoa n) (ht : Pow10At w) (hE : ErrsAt w) (hsz : 1 < w.heap.size) :
    Calls Tryd.prog 157 #[.string s, .int .i64 lo, .int .i64 hi] w (Panics w) := by
  have hN := Lib.hid hn
  clear hn
  by_cases hok : ∃ v, Lib.atoiAll s.data.toList = .ok v
  · obtain ⟨v, hv⟩ := hok
    have ha := Lib.hid (atoi_ok s w hs v hv)
    clear hv
    by_cases hl1 : v < lo
    · clear ht hE
      go_enter Tryd.func157, Tryd.ntmps157
      go_wp2_with fail
      refine ha.out.mono ?_
      rintro e w1 ⟨rfl, hb1⟩
      go_wp2
      exact ⟨rfl, ⟨_, _, rfl⟩, hb1⟩
    · by_cases hl2 : hi < v
      · clear ht hE
        go_enter Tryd.func157, Tryd.ntmps157
        go_wp2_with fail
        refine ha.out.mono ?_
        rintro e w1 ⟨rfl, hb1⟩
        go_wp2
        exact ⟨rfl, ⟨_, _, rfl⟩, hb1⟩
      · have hne : (Lib.itoa v == s.toList) = false := by
          rw [beq_eq_false_iff_ne, ByteArray.toList_eq]
          intro e
          exact hN.out v (by omega) (by omega) e.symm
        clear hE
        go_enter Tryd.func157, Tryd.ntmps157
        go_wp2_with fail
        refine ha.out.mono ?_
        rintro e w1 ⟨rfl, hb1⟩
        have ht1 := Lib.hid (implFormatInt_any v w1 (by omega) (by omega) (ht.below hb1 hsz))
        clear ht ha
        go_wp2_with fail
        refine ht1.out.mono ?_
        rintro e w2 ⟨rfl, hb2⟩
        go_wp2
        exact ⟨rfl, ⟨_, _, rfl⟩, hb1.trans (hb2.mono hb1.size)⟩
  · have ha := Lib.hid (atoi_err s w hs hE (fun v hv => hok ⟨v, hv⟩))
    clear ht hE
    go_enter Tryd.func157, Tryd.ntmps157
    go_wp2_with fail
    refine ha.out.mono ?_
    rintro e w1 ⟨n, t, p, rfl, hb1⟩
    go_wp2
    exact ⟨rfl, ⟨_, _, rfl⟩, hb1⟩

end Go.Proofs.YtlmbnefoobameaaDoor
end

section
namespace Go.Proofs.YtlmbnefoobameaaDoor
open Go.RowKit

theorem catchI_panicking (u : TypeId) (pv : Value) (older : List PanicEntry) (w : World) :
    CallsD Tryd.prog 156 #[] (.panicking ({ v := .iface u pv, recovered := false } :: older)) w fun e u' w' =>
      e = .returned (.tuple #[]) ∧ u' = .panicking ({ v := .iface u pv, recovered := true } :: older) ∧ w' = w := by
  refine callsD_of_wpS Tryd.func156 rfl fun c₀ cs hu => ?_
  apply wpS_region
  simp [wpOpsS, go_sem, recoverD, hu, Tryd.ntmps156, bodyPostS, results, Tryd.results156]

theorem catchI_idle (w : World) :
    CallsD Tryd.prog 156 #[] .returning w fun e u' w' => e = .returned (.tuple #[]) ∧ u' = .returning ∧ w' = w := by
  refine callsD_of_wpS Tryd.func156 rfl fun c₀ cs hu => ?_
  apply wpS_region
  simp [wpOpsS, go_sem, recoverD, hu, Tryd.ntmps156, bodyPostS, results, Tryd.results156]
  cases c₀
  simp_all

set_option maxHeartbeats 400000 in
theorem implParseInt_yes (s : ByteArray) (n : Int) (w : World) (hs : s.size ≤ 1048576) (h0 : -999999999999 ≤ n) (h1 : n ≤ 999999999999) (hn : s.data.toList = Lib.itoa n) (ht : Pow10At w) (hsz : 1 < w.heap.size) :
    Calls Tryd.prog 148 #[.string s] w fun e w' => e = .returned (.tuple #[.int .i64 n, .bool true]) ∧ Below w.heap.size w w' := by
  have hw := Lib.hid (within_yes s (-999999999999) 999999999999 n w hs h0 h1 (by omega) (by omega) hn ht hsz)
  have hmf : ∀ (fn : Fn) (first cap : Array Value) (w : World), (Instr.makeFunc fn first cap).run Tryd.prog w = .ok (.func fn first cap) w := fun _ _ _ _ => rfl
  clear hn ht
  go_enter_defers Tryd.func148, Tryd.ntmps148
  go_wp2_with fail
  refine hw.out.mono ?_
  rintro e w1 ⟨rfl, hb1⟩
  go_wp2
  refine leaves_cons (f := 156) (args := #[]) (by simp) (by simp [go_sem]) ?_
  refine (catchI_idle _).mono ?_
  rintro e u' w'' ⟨rfl, rfl, rfl⟩
  simp [Leaves, settle, results, Tryd.results148, go_sem]
  exact hb1

set_option maxHeartbeats 400000 in
theorem implParseInt_no (s : ByteArray) (w : World) (hs : s.size ≤ 1048576) (hn : ∀ n, -999999999999 ≤ n → n ≤ 999999999999 → s.data.toList ≠ Lib.itoa n) (ht : Pow10At w) (hE : ErrsAt w) (hsz : 1 < w.heap.size) :
    Calls Tryd.prog 148 #[.string s] w fun e w' => e = .returned (.tuple #[.int .i64 0, .bool false]) ∧ Below w.heap.size w w' := by
  have hw := Lib.hid (within_no s (-999999999999) 999999999999 w hs (by omega) (by omega) hn ht hE hsz)
  have hmf : ∀ (fn : Fn) (first cap : Array Value) (w : World), (Instr.makeFunc fn first cap).run Tryd.prog w = .ok (.func fn first cap) w := fun _ _ _ _ => rfl
  clear hn ht hE
  go_enter_defers Tryd.func148, Tryd.ntmps148
  go_wp2_with fail
  refine hw.out.mono ?_
  rintro e w1 ⟨⟨t, v, rfl⟩, hb1⟩
  go_wp2
  refine leaves_cons (f := 156) (args := #[]) (by simp) (by simp [go_sem]) ?_
  refine (catchI_panicking _ _ [] _).mono ?_
  rintro e u' w'' ⟨rfl, rfl, rfl⟩
  simp [Leaves, settle, results, Tryd.results148, go_sem]
  exact hb1

end Go.Proofs.YtlmbnefoobameaaDoor
end

section
namespace Go.Proofs.YtlmbnefoobameaaDoor.OI
open Go Go.RowKit
attribute [local go_sem ↓] Go.wp_at_zero Go.wp_at_succ

/-- What ParseInt reads numbers by. -/
structure NumsO (w : World) (B : Nat) : Prop where
  pow : Pow10At w
  errs : ErrsAt w
  b1 : 1 < B
  b2 : 4 < B
  b3 : 5 < B
theorem NumsO.below {w w' : World} {B : Nat} (h : NumsO w B) (hb : Below B w w') : NumsO w' B := ⟨h.pow.below hb h.b1, h.errs.below hb ⟨h.b2, h.b3⟩, h.b1, h.b2, h.b3⟩
/-- The reader's variables; the tables lie below B. -/
structure RO (B : Nat) (w : World) (ps pa : Nat) (s : ByteArray) (j : Nat) : Prop where
  rd : RAt w ps pa s j
  nums : NumsO w B
  ls : B ≤ ps
  la : B ≤ pa
section
variable {B : Nat} {w w' : World} {ps pa j j' : Nat} {s : ByteArray}
theorem RO.lts (h : RO B w ps pa s j) : ps < w.heap.size := h.rd.lts
theorem RO.lta (h : RO B w ps pa s j) : pa < w.heap.size := h.rd.lta
theorem RO.below {C : Nat} (h : RO B w ps pa s j) (hb : Below C w w') (h1 : ps < C) (h2 : pa < C) : RO B w' ps pa s j :=
  ⟨h.rd.below hb h1 h2, h.nums.below (hb.mono (by have := h.ls; omega)), h.ls, h.la⟩
theorem RO.keep (h : RO B w ps pa s j) (hb : Below w.heap.size w w') : RO B w' ps pa s j := h.below hb h.lts h.lta
theorem RO.read (h : RO B w ps pa s j) (hr : RAt w' ps pa s j') (hg : w.grownBy w' (some pa)) : RO B w' ps pa s j' := by
  have hla := h.la
  have hlt := h.lta
  have hb : Below B w w' := ⟨hg.os, hg.tape, hg.output, hg.size, fun i hi => hg.block i (by omega) (fun e => by injection e with e; omega)⟩
  exact ⟨hr, h.nums.below hb, h.ls, h.la⟩
theorem RO.tab (h : RO B w ps pa s j) : 1 < w.heap.size := by
  have h1 := h.nums.b1
  have h2 := h.ls
  have h3 := h.lts
  omega
end
abbrev rdv (ps pa : Nat) : Value := .agg #[rdAcc ps pa, rdTak ps pa, rdEnd ps pa]
/-- The reader's struct lies in the first new block, the result's box in the second. -/
structure Hold (B : Nat) (w W : World) (ps pa : Nat) (s : ByteArray) (j : Nat) : Prop where
  rd : RO B W ps pa s j
  rdr : Whole1 W w.heap.size 87 #[rdAcc ps pa, rdTak ps pa, rdEnd ps pa]
  zero : Whole1 W (w.heap.size + 1) 50 #[.int .i64 0, .string ⟨#[]⟩, .int .i64 0, .slice none 0 0]
  grown : w.grownBy W (some pa)
  hs : ps < w.heap.size
  ha : pa < w.heap.size
/-- What reading hands back: false, and nothing is to be read; or true, and the optic that is to be read. -/
def PostR (x : Option (Ot × List UInt8)) (B ps pa : Nat) (s : ByteArray) (w : World) (e : Ending) (w' : World) : Prop :=
  ∃ k nm n A m ac ok j, e = .returned (.tuple #[.agg #[.int .i64 k, .string nm, .int .i64 n, .slice A m ac], .bool ok]) ∧ RO B w' ps pa s j ∧ w.grownBy w' (some pa) ∧
    ((ok = false ∧ x = none) ∨ (ok = true ∧ ∃ t, x = some (t, restOf s j) ∧ OwnOt w' w.heap.size (.agg #[.int .i64 k, .string nm, .int .i64 n, .slice A m ac]) t))
section
variable {B : Nat} {w W W' : World} {ps pa j j' C : Nat} {s : ByteArray}
theorem Hold.start (h : RO B w ps pa s j) : Hold B w ((w.alloc (.cells #[rdAcc ps pa, rdTak ps pa, rdEnd ps pa] 87)).alloc (.cells #[.int .i64 0, .string ⟨#[]⟩, .int .i64 0, .slice none 0 0] 50)) ps pa s j := by
  obtain ⟨hb, p0, q0, _⟩ := boxes2 w 87 50 #[rdAcc ps pa, rdTak ps pa, rdEnd ps pa] #[.int .i64 0, .string ⟨#[]⟩, .int .i64 0, .slice none 0 0]
  exact ⟨h.keep hb, p0, q0, grown_low (only_refl w (some pa)) hb (Nat.le_refl _), h.lts, h.lta⟩
theorem Hold.read (h : Hold B w W ps pa s j) (hr : RAt W' ps pa s j') (hg : W.grownBy W' (some pa)) : Hold B w W' ps pa s j' := by
  have ha := h.ha
  exact ⟨h.rd.read hr hg, (hg.block _ h.rdr.lt (fun e => by injection e with e; omega)).trans h.rdr, (hg.block _ h.zero.lt (fun e => by injection e with e; omega)).trans h.zero, only_trans h.grown hg, h.hs, ha⟩
theorem Hold.read' (h : Hold B w W ps pa s j) (hr : RO B W' ps pa s j') (hg : W.grownBy W' (some pa)) : Hold B w W' ps pa s j' := h.read hr.rd hg
theorem Hold.more (h : Hold B w W ps pa s j) (hb : Below C W W') (hC : w.heap.size + 1 < C) : Hold B w W' ps pa s j := by
  have ha := h.ha
  have hs := h.hs
  exact ⟨h.rd.below hb (by omega) (by omega), h.rdr.below hb (by omega), h.zero.below hb hC, grown_low h.grown hb (by omega), hs, ha⟩
theorem Hold.keep (h : Hold B w W ps pa s j) (hb : Below W.heap.size W W') : Hold B w W' ps pa s j := h.more hb h.zero.lt
theorem Hold.drew (h : Hold B w W ps pa s j) : Hold B w W.drew ps pa s j := h.keep (Below.refl W.heap.size W).drew
theorem Hold.no (h : Hold B w W ps pa s j) {x : Option (Ot × List UInt8)} (hx : x = none) (k n : Int) (nm : ByteArray) (A : Option Addr) (m ac : Nat) (a b c d : Value) :
    PostR x B ps pa s w (.returned (.tuple #[.agg #[.int .i64 k, .string nm, .int .i64 n, .slice A m ac], .bool false])) ((((W.setCell ⟨w.heap.size + 1, 0, none⟩ a).setCell ⟨w.heap.size + 1, 1, none⟩ b).setCell ⟨w.heap.size + 1, 2, none⟩ c).setCell ⟨w.heap.size + 1, 3, none⟩ d) := by
  have hb := oset4_below W (w.heap.size + 1) a b c d
  have hs := h.hs
  have ha := h.ha
  exact ⟨k, nm, n, A, m, ac, false, j, rfl, h.rd.below hb (by omega) (by omega), grown_low h.grown (hb.mono (Nat.le_succ _)) (Nat.le_refl _), Or.inl ⟨rfl, hx⟩⟩
theorem Hold.yes (h : Hold B w W ps pa s j) {x : Option (Ot × List UInt8)} {t : Ot} {k n : Int} {nm : ByteArray} {A : Option Addr} {m ac : Nat} (hx : x = some (t, restOf s j)) (hO : OwnOt W (w.heap.size + 2) (.agg #[.int .i64 k, .string nm, .int .i64 n, .slice A m ac]) t) (a b c d : Value) :
    PostR x B ps pa s w (.returned (.tuple #[.agg #[.int .i64 k, .string nm, .int .i64 n, .slice A m ac], .bool true])) ((((W.setCell ⟨w.heap.size + 1, 0, none⟩ a).setCell ⟨w.heap.size + 1, 1, none⟩ b).setCell ⟨w.heap.size + 1, 2, none⟩ c).setCell ⟨w.heap.size + 1, 3, none⟩ d) := by
  have hb := oset4_below W (w.heap.size + 1) a b c d
  have hs := h.hs
  have ha := h.ha
  exact ⟨k, nm, n, A, m, ac, true, j, rfl, h.rd.below hb (by omega) (by omega), grown_low h.grown (hb.mono (Nat.le_succ _)) (Nat.le_refl _), Or.inr ⟨rfl, t, hx, (hO.set4 (w.heap.size + 1) (by omega) a b c d).base (by omega)⟩⟩
/-- What another reader handed back is handed on. -/
theorem Hold.pass (h : Hold B w W ps pa s j) {x : Option (Ot × List UInt8)} {k n : Int} {nm : ByteArray} {A : Option Addr} {m ac : Nat} {ok : Bool} (hx : (ok = false ∧ x = none) ∨ (ok = true ∧ ∃ t, x = some (t, restOf s j) ∧ OwnOt W (w.heap.size + 2) (.agg #[.int .i64 k, .string nm, .int .i64 n, .slice A m ac]) t)) (a b c d : Value) :
    PostR x B ps pa s w (.returned (.tuple #[.agg #[.int .i64 k, .string nm, .int .i64 n, .slice A m ac], .bool ok])) ((((W.setCell ⟨w.heap.size + 1, 0, none⟩ a).setCell ⟨w.heap.size + 1, 1, none⟩ b).setCell ⟨w.heap.size + 1, 2, none⟩ c).setCell ⟨w.heap.size + 1, 3, none⟩ d) := by
  rcases hx with ⟨rfl, h1⟩ | ⟨rfl, t, h1, h2⟩
  · exact h.no h1 ..
  · exact h.yes h1 h2 ..
end
/-- The reading of an optic of n levels at most. -/
def ReadR (n : Nat) (d : Int) : Prop := ∀ (B : Nat) (w : World) (ps pa j : Nat) (s : ByteArray), RO B w ps pa s j → s.size ≤ 1048576 → Calls Tryd.prog 64 #[rdv ps pa, .int .i64 d] w (PostR (rdOi n (restOf s j)) B ps pa s w)

/-- What readSign hands back. -/
def PostS (B ps pa : Nat) (s : ByteArray) (j : Nat) (w : World) (e : Ending) (w' : World) : Prop :=
  ∃ k ok j', e = .returned (.tuple #[.int .i64 k, .bool ok]) ∧ RO B w' ps pa s j' ∧ w.grownBy w' (some pa) ∧
    ((ok = false ∧ eat 59 (restOf s j) = none ∧ eat 124 (restOf s j) = none) ∨ (ok = true ∧ ((k = 12 ∧ eat 59 (restOf s j) = some (restOf s j')) ∨ (k = 13 ∧ eat 59 (restOf s j) = none ∧ eat 124 (restOf s j) = some (restOf s j')))))
set_option maxHeartbeats 4000000 in
theorem readSign_any (B : Nat) (w : World) (ps pa j : Nat) (s : ByteArray) (hr : RO B w ps pa s j) (hs : s.size ≤ 1048576) :
    Calls Tryd.prog 137 #[rdv ps pa] w (PostS B ps pa s j w) := by
  obtain ⟨hb0, v0, hs0⟩ := boxes1 w 87 #[rdAcc ps pa, rdTak ps pa, rdEnd ps pa]
  have H0 := Lib.hid (hr.keep hb0)
  have G0 := Lib.hid (grown_low (only_refl w (some pa)) hb0 (Nat.le_refl _))
  have V0 : Hid (Whole1 (w.alloc (.cells #[rdAcc ps pa, rdTak ps pa, rdEnd ps pa] 87)) w.heap.size 87 #[rdAcc ps pa, rdTak ps pa, rdEnd ps pa]) := Lib.hid v0
  have hpa := hr.lta
  clear hr hb0 v0 hs0
  go_enter Tryd.func137, Tryd.ntmps137
  go_upto_region 1 with fail
  generalize w.alloc (.cells #[rdAcc ps pa, rdTak ps pa, rdEnd ps pa] 87) = wa at *
  have b0 : wa.cell? ⟨w.heap.size, 0, none⟩ = some (rdAcc ps pa) := V0.out.cell 0
  cases hx : eat 59 (restOf s j) with
  | some q1 =>
    have hx1 := (eats_one 59 _).trans hx
    obtain ⟨hle1, rfl⟩ := eats_rest (p := ⟨#[59]⟩) H0.out.rd.le hx1
    have HC := Lib.hid (accE_yes ps pa j s ⟨#[59]⟩ _ wa H0.out.rd hs hx1)
    have HX := Lib.hid hx
    clear hx hx1
    generalize j + (⟨#[59]⟩ : ByteArray).size = j2 at *
    go_wp2_with fail
    refine HC.out.mono ?_
    rintro e w2 ⟨rfl, hr2, hg2⟩
    have H2 := Lib.hid (H0.out.read hr2 hg2)
    have G2 := Lib.hid (only_trans G0.out hg2)
    clear hr2 hg2
    go_wp2
    exact bodyPost_ret (v := .tuple #[.int .i64 12, .bool true]) (by simp [results, Tryd.results137, go_sem]) rfl ⟨12, true, j2, rfl, H2.out, G2.out, Or.inr ⟨rfl, Or.inl ⟨rfl, HX.out⟩⟩⟩
  | none =>
    have HC := Lib.hid (accE_no ps pa j s ⟨#[59]⟩ wa H0.out.rd ((eats_one 59 _).trans hx))
    have HX := Lib.hid hx
    clear hx
    go_wp2_with fail
    refine HC.out.mono ?_
    rintro e w2 ⟨rfl, hr2, hg2⟩
    have H2 := Lib.hid (H0.out.read hr2 hg2)
    have G2 := Lib.hid (only_trans G0.out hg2)
    have V2 := Lib.hid (V0.out.grownO hg2 (by omega))
    clear hr2 hg2 b0
    have b0 : w2.cell? ⟨w.heap.size, 0, none⟩ = some (rdAcc ps pa) := V2.out.cell 0
    cases hx2 : eat 124 (restOf s j) with
    | some q1 =>
      have hx1 := (eats_one 124 _).trans hx2
      obtain ⟨hle1, rfl⟩ := eats_rest (p := ⟨#[124]⟩) H2.out.rd.le hx1
      have HC2 := Lib.hid (accE_yes ps pa j s ⟨#[124]⟩ _ w2 H2.out.rd hs hx1)
      have HX2 := Lib.hid hx2
      clear hx2 hx1
      generalize j + (⟨#[124]⟩ : ByteArray).size = j2 at *
      go_wp2_with fail
      refine HC2.out.mono ?_
      rintro e w3 ⟨rfl, hr3, hg3⟩
      have H3 := Lib.hid (H2.out.read hr3 hg3)
      have G3 := Lib.hid (only_trans G2.out hg3)
      clear hr3 hg3
      go_wp2
      exact bodyPost_ret (v := .tuple #[.int .i64 13, .bool true]) (by simp [results, Tryd.results137, go_sem]) rfl ⟨13, true, j2, rfl, H3.out, G3.out, Or.inr ⟨rfl, Or.inr ⟨rfl, HX.out, HX2.out⟩⟩⟩
    | none =>
      have HC2 := Lib.hid (accE_no ps pa j s ⟨#[124]⟩ w2 H2.out.rd ((eats_one 124 _).trans hx2))
      have HX2 := Lib.hid hx2
      clear hx2
      go_wp2_with fail
      refine HC2.out.mono ?_
      rintro e w3 ⟨rfl, hr3, hg3⟩
      have H3 := Lib.hid (H2.out.read hr3 hg3)
      have G3 := Lib.hid (only_trans G2.out hg3)
      clear hr3 hg3
      go_wp2
      exact bodyPost_ret (v := .tuple #[.int .i64 0, .bool false]) (by simp [results, Tryd.results137, go_sem]) rfl ⟨0, false, j, rfl, H3.out, G3.out, Or.inl ⟨rfl, HX.out, HX2.out⟩⟩

set_option maxHeartbeats 4000000 in
theorem readStep_any (k : Int) (B : Nat) (w : World) (ps pa j : Nat) (s : ByteArray) (hr : RO B w ps pa s j) (hs : s.size ≤ 1048576) :
    Calls Tryd.prog 140 #[rdv ps pa, .int .i64 k] w (PostR (rdStepO k (restOf s j)) B ps pa s w) := by
  have HH0 := Lib.hid (Hold.start hr)
  clear hr
  go_enter Tryd.func140, Tryd.ntmps140
  go_upto_region 1 with fail
  generalize (w.alloc (.cells #[rdAcc ps pa, rdTak ps pa, rdEnd ps pa] 87)).alloc (.cells #[.int .i64 0, .string ⟨#[]⟩, .int .i64 0, .slice none 0 0] 50) = wa at *
  have b0 : wa.cell? ⟨w.heap.size, 0, none⟩ = some (rdAcc ps pa) := HH0.out.rdr.cell 0
  have b1 : wa.cell? ⟨w.heap.size, 1, none⟩ = some (rdTak ps pa) := HH0.out.rdr.cell 1
  have b2 : wa.cell? ⟨w.heap.size, 2, none⟩ = some (rdEnd ps pa) := HH0.out.rdr.cell 2
  cases hx : eat 32 (restOf s j) with
  | none =>
    have HC := Lib.hid (accE_no ps pa j s ⟨#[32]⟩ wa HH0.out.rd.rd ((eats_one 32 _).trans hx))
    have HX := Lib.hid (show rdStepO k (restOf s j) = none by rw [rdStepO, hx])
    clear hx
    go_wp2_with fail
    refine HC.out.mono ?_
    rintro e w2 ⟨rfl, hr2, hg2⟩
    have HH2 := Lib.hid (HH0.out.read hr2 hg2)
    clear hr2 hg2 b0 b1 b2
    have d0 : w2.cell? ⟨w.heap.size + 1, 0, none⟩ = some (.int .i64 0) := HH2.out.zero.cell 0
    have d1 : w2.cell? ⟨w.heap.size + 1, 1, none⟩ = some (.string ⟨#[]⟩) := HH2.out.zero.cell 1
    have d2 : w2.cell? ⟨w.heap.size + 1, 2, none⟩ = some (.int .i64 0) := HH2.out.zero.cell 2
    have d3 : w2.cell? ⟨w.heap.size + 1, 3, none⟩ = some (.slice none 0 0) := HH2.out.zero.cell 3
    have f0 : w2.frozen? ⟨w.heap.size + 1, 0, none⟩ = false := HH2.out.zero.free 0
    have f1 : w2.frozen? ⟨w.heap.size + 1, 1, none⟩ = false := HH2.out.zero.free 1
    have f2 : w2.frozen? ⟨w.heap.size + 1, 2, none⟩ = false := HH2.out.zero.free 2
    have f3 : w2.frozen? ⟨w.heap.size + 1, 3, none⟩ = false := HH2.out.zero.free 3
    go_wp2
    exact bodyPost_ret (v := .tuple #[.agg #[.int .i64 0, .string ⟨#[]⟩, .int .i64 0, .slice none 0 0], .bool false]) (by simp [results, Tryd.results140, go_sem, d0, d1, d2, d3]) rfl (HH2.out.no HX.out 0 0 ⟨#[]⟩ none 0 0 _ _ _ _)
  | some q1 =>
    have hx1 := (eats_one 32 _).trans hx
    obtain ⟨hle1, rfl⟩ := eats_rest (p := ⟨#[32]⟩) HH0.out.rd.rd.le hx1
    have HC := Lib.hid (accE_yes ps pa j s ⟨#[32]⟩ _ wa HH0.out.rd.rd hs hx1)
    have HX0 := Lib.hid hx
    clear hx hx1
    generalize j + (⟨#[32]⟩ : ByteArray).size = j2 at *
    go_wp2_with fail
    refine HC.out.mono ?_
    rintro e w2 ⟨rfl, hr2, hg2⟩
    have HH2 := Lib.hid (HH0.out.read hr2 hg2)
    clear hr2 hg2 b0 b1 b2
    have b0 : w2.cell? ⟨w.heap.size, 0, none⟩ = some (rdAcc ps pa) := HH2.out.rdr.cell 0
    have b1 : w2.cell? ⟨w.heap.size, 1, none⟩ = some (rdTak ps pa) := HH2.out.rdr.cell 1
    have b2 : w2.cell? ⟨w.heap.size, 2, none⟩ = some (rdEnd ps pa) := HH2.out.rdr.cell 2
    have HT := Lib.hid (takeRun_any 149 enters_int intR intC intR_byte intR_high pred_int ps pa j2 s w2 HH2.out.rd.rd hs)
    go_wp2_with fail
    refine HT.out.mono ?_
    rintro e w3 ⟨k1, hk1, ⟨rfl, hr3, hg3⟩, hd3, ht3⟩
    have HH3 := Lib.hid (HH2.out.read hr3 hg3)
    have hwz : (s.extract j2 k1).size ≤ 1048576 := by rw [ByteArray.size_extract]; omega
    have hwd : (s.extract j2 k1).data.toList = (restOf s j2).takeWhile intC := by rw [← ht3]
    have HD := Lib.hid hd3
    clear hr3 hg3 hd3 ht3 b0 b1 b2
    cases hu : unItoa ((restOf s j2).takeWhile intC) with
    | none =>
      have HX := Lib.hid (show rdStepO k (restOf s j) = none by rw [rdStepO, HX0.out]; simp only [hu])
      have HP := Lib.hid (implParseInt_no (s.extract j2 k1) w3 hwz (fun z hz1 hz2 he => by rw [← hwd, unItoa_of he hz1 hz2] at hu; cases hu) HH3.out.rd.nums.pow HH3.out.rd.nums.errs HH3.out.rd.tab)
      clear hu hwd
      go_wp2_with fail
      refine HP.out.mono ?_
      rintro e w4 ⟨rfl, hb4⟩
      have HH4 := Lib.hid (HH3.out.keep hb4)
      clear hb4
      have d0 : w4.cell? ⟨w.heap.size + 1, 0, none⟩ = some (.int .i64 0) := HH4.out.zero.cell 0
      have d1 : w4.cell? ⟨w.heap.size + 1, 1, none⟩ = some (.string ⟨#[]⟩) := HH4.out.zero.cell 1
      have d2 : w4.cell? ⟨w.heap.size + 1, 2, none⟩ = some (.int .i64 0) := HH4.out.zero.cell 2
      have d3 : w4.cell? ⟨w.heap.size + 1, 3, none⟩ = some (.slice none 0 0) := HH4.out.zero.cell 3
      have f0 : w4.frozen? ⟨w.heap.size + 1, 0, none⟩ = false := HH4.out.zero.free 0
      have f1 : w4.frozen? ⟨w.heap.size + 1, 1, none⟩ = false := HH4.out.zero.free 1
      have f2 : w4.frozen? ⟨w.heap.size + 1, 2, none⟩ = false := HH4.out.zero.free 2
      have f3 : w4.frozen? ⟨w.heap.size + 1, 3, none⟩ = false := HH4.out.zero.free 3
      go_wp2
      exact bodyPost_ret (v := .tuple #[.agg #[.int .i64 k, .string ⟨#[]⟩, .int .i64 0, .slice none 0 0], .bool false]) (by simp [results, Tryd.results140, go_sem, d0, d1, d2, d3]) rfl (HH4.out.no HX.out k 0 ⟨#[]⟩ none 0 0 _ _ _ _)
    | some z =>
      have hz := unItoa_some hu
      have HX := Lib.hid (show rdStepO k (restOf s j) = some (.mk k z ⟨#[]⟩ [], restOf s k1) by rw [rdStepO, HX0.out]; simp only [hu, HD.out])
      have HP := Lib.hid (implParseInt_yes (s.extract j2 k1) z w3 hwz hz.2.1 hz.2.2 (hwd.trans hz.1) HH3.out.rd.nums.pow HH3.out.rd.tab)
      clear hu hwd hz
      go_wp2_with fail
      refine HP.out.mono ?_
      rintro e w4 ⟨rfl, hb4⟩
      have HH4 := Lib.hid (HH3.out.keep hb4)
      clear hb4
      have d0 : w4.cell? ⟨w.heap.size + 1, 0, none⟩ = some (.int .i64 0) := HH4.out.zero.cell 0
      have d1 : w4.cell? ⟨w.heap.size + 1, 1, none⟩ = some (.string ⟨#[]⟩) := HH4.out.zero.cell 1
      have d2 : w4.cell? ⟨w.heap.size + 1, 2, none⟩ = some (.int .i64 0) := HH4.out.zero.cell 2
      have d3 : w4.cell? ⟨w.heap.size + 1, 3, none⟩ = some (.slice none 0 0) := HH4.out.zero.cell 3
      have f0 : w4.frozen? ⟨w.heap.size + 1, 0, none⟩ = false := HH4.out.zero.free 0
      have f1 : w4.frozen? ⟨w.heap.size + 1, 1, none⟩ = false := HH4.out.zero.free 1
      have f2 : w4.frozen? ⟨w.heap.size + 1, 2, none⟩ = false := HH4.out.zero.free 2
      have f3 : w4.frozen? ⟨w.heap.size + 1, 3, none⟩ = false := HH4.out.zero.free 3
      go_wp2
      exact bodyPost_ret (v := .tuple #[.agg #[.int .i64 k, .string ⟨#[]⟩, .int .i64 z, .slice none 0 0], .bool true]) (by simp [results, Tryd.results140, go_sem, d0, d1, d2, d3]) rfl (HH4.out.yes HX.out (OwnOt.leaf _ _ k z ⟨#[]⟩ (Nat.zero_le _)) _ _ _ _)

end Go.Proofs.YtlmbnefoobameaaDoor.OI
end

section
namespace Go.Proofs.YtlmbnefoobameaaDoor.OI
open Go Go.RowKit
attribute [local go_sem ↓] Go.wp_at_zero Go.wp_at_succ

theorem grown_undrewO {w w' : World} {p : Option Nat} (h : w.drew.grownBy w' p) : w.grownBy w' p := ⟨h.os, h.tape, h.output, h.size, h.block⟩
theorem oset4_cell (w : World) (r : Nat) (a b c d : Value) (g i : Nat) (hg : g ≠ r) : ((((w.setCell ⟨r, 0, none⟩ a).setCell ⟨r, 1, none⟩ b).setCell ⟨r, 2, none⟩ c).setCell ⟨r, 3, none⟩ d).cell? ⟨g, i, none⟩ = w.cell? ⟨g, i, none⟩ := by
  rw [World.cell?_setCell_far _ _ _ _ (fun e => hg e.symm), World.cell?_setCell_far _ _ _ _ (fun e => hg e.symm), World.cell?_setCell_far _ _ _ _ (fun e => hg e.symm), World.cell?_setCell_far _ _ _ _ (fun e => hg e.symm)]

set_option maxHeartbeats 16000000 in
set_option maxRecDepth 100000 in
theorem readPair_any (n : Nat) (d d' : Int) (hd : IntKind.i64.wrap (d - 1) = d') (H : ReadR n d') (B : Nat) (w : World) (ps pa j : Nat) (s : ByteArray) (hr : RO B w ps pa s j) (hs : s.size ≤ 1048576) :
    Calls Tryd.prog 113 #[rdv ps pa, .int .i64 d] w (PostR (rdTwo (rdOi n) (restOf s j)) B ps pa s w) := by
  have HH0 := Lib.hid (Hold.start hr)
  have HR := Lib.hid H
  have hsz0 : ((w.alloc (.cells #[rdAcc ps pa, rdTak ps pa, rdEnd ps pa] 87)).alloc (.cells #[.int .i64 0, .string ⟨#[]⟩, .int .i64 0, .slice none 0 0] 50)).heap.size = w.heap.size + 2 := by simp
  clear hr H
  go_enter Tryd.func113, Tryd.ntmps113
  go_upto_region 1 with fail
  generalize (w.alloc (.cells #[rdAcc ps pa, rdTak ps pa, rdEnd ps pa] 87)).alloc (.cells #[.int .i64 0, .string ⟨#[]⟩, .int .i64 0, .slice none 0 0] 50) = wa at *
  have b0 : wa.cell? ⟨w.heap.size, 0, none⟩ = some (rdAcc ps pa) := HH0.out.rdr.cell 0
  have b1 : wa.cell? ⟨w.heap.size, 1, none⟩ = some (rdTak ps pa) := HH0.out.rdr.cell 1
  have b2 : wa.cell? ⟨w.heap.size, 2, none⟩ = some (rdEnd ps pa) := HH0.out.rdr.cell 2
  have HC := Lib.hid (HR.out B wa ps pa j s HH0.out.rd hs)
  go_wp2_with fail
  refine HC.out.mono ?_
  rintro e w1 ⟨k1, nm1, n1, A1, m1, ac1, ok1, j1, rfl, hr1, hg1, hor1⟩
  have hH1 := HH0.out.read' hr1 hg1
  have hs1 := hg1.size
  obtain ⟨hb2, y2, hs2⟩ := boxes1 w1 50 #[.int .i64 k1, .string nm1, .int .i64 n1, .slice A1 m1 ac1]
  have HH2 := Lib.hid (hH1.keep hb2)
  have HOR1 := Lib.hid hor1
  have HY2 : Hid (Whole1 (w1.alloc (.cells #[.int .i64 k1, .string nm1, .int .i64 n1, .slice A1 m1 ac1] 50)) w1.heap.size 50 #[.int .i64 k1, .string nm1, .int .i64 n1, .slice A1 m1 ac1]) := Lib.hid y2
  have HK2 := Lib.hid hb2
  clear hr1 hg1 hor1 hH1 hb2 y2 b0 b1 b2
  go_upto_region 2 with fail
  generalize hy0 : w1.heap.size = y0 at *
  generalize w1.alloc (.cells #[.int .i64 k1, .string nm1, .int .i64 n1, .slice A1 m1 ac1] 50) = w2 at *
  rcases HOR1.out with ⟨rfl, hno⟩ | ⟨rfl, t, hyes, hO⟩
  · have HXF := Lib.hid (show rdTwo (rdOi n) (restOf s j) = none by rw [rdTwo, hno])
    clear hno HOR1
    have d0 : w2.cell? ⟨w.heap.size + 1, 0, none⟩ = some (.int .i64 0) := HH2.out.zero.cell 0
    have d1 : w2.cell? ⟨w.heap.size + 1, 1, none⟩ = some (.string ⟨#[]⟩) := HH2.out.zero.cell 1
    have d2 : w2.cell? ⟨w.heap.size + 1, 2, none⟩ = some (.int .i64 0) := HH2.out.zero.cell 2
    have d3 : w2.cell? ⟨w.heap.size + 1, 3, none⟩ = some (.slice none 0 0) := HH2.out.zero.cell 3
    have f0 : w2.frozen? ⟨w.heap.size + 1, 0, none⟩ = false := HH2.out.zero.free 0
    have f1 : w2.frozen? ⟨w.heap.size + 1, 1, none⟩ = false := HH2.out.zero.free 1
    have f2 : w2.frozen? ⟨w.heap.size + 1, 2, none⟩ = false := HH2.out.zero.free 2
    have f3 : w2.frozen? ⟨w.heap.size + 1, 3, none⟩ = false := HH2.out.zero.free 3
    go_wp2
    exact bodyPost_ret (v := .tuple #[.agg #[.int .i64 0, .string ⟨#[]⟩, .int .i64 0, .slice none 0 0], .bool false]) (by simp [results, Tryd.results113, go_sem, d0, d1, d2, d3]) rfl (HH2.out.no HXF.out 0 0 ⟨#[]⟩ none 0 0 _ _ _ _)
  · have HT := Lib.hid hyes
    have hI2 := hO.owned.keep (w' := w2) (fun g hg hl => HK2.out.block g (by have := (osp _ hg).2; omega))
    rw [hy0] at hI2
    have HI2 := Lib.hid hI2
    clear hI2
    clear hyes hO HOR1
    have b0 : w2.cell? ⟨w.heap.size, 0, none⟩ = some (rdAcc ps pa) := HH2.out.rdr.cell 0
    have b1 : w2.cell? ⟨w.heap.size, 1, none⟩ = some (rdTak ps pa) := HH2.out.rdr.cell 1
    have b2 : w2.cell? ⟨w.heap.size, 2, none⟩ = some (rdEnd ps pa) := HH2.out.rdr.cell 2
    have HS := Lib.hid (readSign_any B w2 ps pa j1 s HH2.out.rd hs)
    go_wp2_with fail
    refine HS.out.mono ?_
    rintro e w3 ⟨k2, ok2, j2, rfl, hr3, hg3, hor3⟩
    have HH3 := Lib.hid (HH2.out.read' hr3 hg3)
    have hs3 := hg3.size
    have hzr := HH2.out.zero.lt
    have hha := HH0.out.ha
    have HY3 := Lib.hid (HY2.out.grownO hg3 (by omega))
    have HI3 := Lib.hid (HI2.out.keep (w' := w3) (fun g hg hl => hg3.block g hl (fun e => by injection e with e; have := (osp _ hg).1; omega)))
    have HOR3 := Lib.hid hor3
    clear hr3 hg3 hor3 b0 b1 b2
    rcases HOR3.out with ⟨rfl, h59, h124⟩ | ⟨rfl, hk⟩
    · have HXF := Lib.hid (show rdTwo (rdOi n) (restOf s j) = none by rw [rdTwo, HT.out]; simp only [h59, h124])
      clear h59 h124 HOR3
      have d0 : w3.cell? ⟨w.heap.size + 1, 0, none⟩ = some (.int .i64 0) := HH3.out.zero.cell 0
      have d1 : w3.cell? ⟨w.heap.size + 1, 1, none⟩ = some (.string ⟨#[]⟩) := HH3.out.zero.cell 1
      have d2 : w3.cell? ⟨w.heap.size + 1, 2, none⟩ = some (.int .i64 0) := HH3.out.zero.cell 2
      have d3 : w3.cell? ⟨w.heap.size + 1, 3, none⟩ = some (.slice none 0 0) := HH3.out.zero.cell 3
      have f0 : w3.frozen? ⟨w.heap.size + 1, 0, none⟩ = false := HH3.out.zero.free 0
      have f1 : w3.frozen? ⟨w.heap.size + 1, 1, none⟩ = false := HH3.out.zero.free 1
      have f2 : w3.frozen? ⟨w.heap.size + 1, 2, none⟩ = false := HH3.out.zero.free 2
      have f3 : w3.frozen? ⟨w.heap.size + 1, 3, none⟩ = false := HH3.out.zero.free 3
      go_wp2
      exact bodyPost_ret (v := .tuple #[.agg #[.int .i64 0, .string ⟨#[]⟩, .int .i64 0, .slice none 0 0], .bool false]) (by simp [results, Tryd.results113, go_sem, d0, d1, d2, d3]) rfl (HH3.out.no HXF.out 0 0 ⟨#[]⟩ none 0 0 _ _ _ _)
    · have HX := Lib.hid (show rdTwo (rdOi n) (restOf s j) = rdLast (rdOi n) k2 t (restOf s j2) by
        rw [rdTwo, HT.out]
        rcases hk with ⟨rfl, h1⟩ | ⟨rfl, h1, h2⟩
        · simp only [h1]
        · simp only [h1, h2])
      clear hk HOR3
      have b0 : w3.cell? ⟨w.heap.size, 0, none⟩ = some (rdAcc ps pa) := HH3.out.rdr.cell 0
      have b1 : w3.cell? ⟨w.heap.size, 1, none⟩ = some (rdTak ps pa) := HH3.out.rdr.cell 1
      have b2 : w3.cell? ⟨w.heap.size, 2, none⟩ = some (rdEnd ps pa) := HH3.out.rdr.cell 2
      have HC4 := Lib.hid (HR.out B w3 ps pa j2 s HH3.out.rd hs)
      go_wp2_with fail
      refine HC4.out.mono ?_
      rintro e w4 ⟨k4, nm4, n4, A4, m4, ac4, ok4, j4, rfl, hr4, hg4, hor4⟩
      have hH4 := HH3.out.read' hr4 hg4
      have hs4 := hg4.size
      have hY4 := HY3.out.grownO hg4 (by omega)
      have hI4 := HI3.out.keep (w' := w4) (fun g hg hl => hg4.block g hl (fun e => by injection e with e; have := (osp _ hg).1; omega))
      obtain ⟨hb5, y5, hs5⟩ := boxes1 w4 50 #[.int .i64 k4, .string nm4, .int .i64 n4, .slice A4 m4 ac4]
      have HH5 := Lib.hid (hH4.keep hb5)
      have HOR4 := Lib.hid hor4
      have HY0 : Hid (Whole1 (w4.alloc (.cells #[.int .i64 k4, .string nm4, .int .i64 n4, .slice A4 m4 ac4] 50)) y0 50 #[.int .i64 k1, .string nm1, .int .i64 n1, .slice A1 m1 ac1]) := Lib.hid (hY4.below hb5 hY4.lt)
      have HY1 : Hid (Whole1 (w4.alloc (.cells #[.int .i64 k4, .string nm4, .int .i64 n4, .slice A4 m4 ac4] 50)) w4.heap.size 50 #[.int .i64 k4, .string nm4, .int .i64 n4, .slice A4 m4 ac4]) := Lib.hid y5
      have HIA := Lib.hid (hI4.keep (w' := w4.alloc (.cells #[.int .i64 k4, .string nm4, .int .i64 n4, .slice A4 m4 ac4] 50)) fun g hg hl => hb5.block g hl)
      have HK5 := Lib.hid hb5
      have hy0l := hY4.lt
      clear hr4 hg4 hor4 hH4 hb5 y5 hY4 hI4 b0 b1 b2
      go_upto_region 8 with fail
      generalize hy1 : w4.heap.size = y1 at *
      generalize w4.alloc (.cells #[.int .i64 k4, .string nm4, .int .i64 n4, .slice A4 m4 ac4] 50) = w5 at *
      have hha5 := HH5.out.ha
      have hn0 : y0 ≠ w.heap.size + 1 := by omega
      have hn1 : y1 ≠ w.heap.size + 1 := by omega
      have hn2 : w.heap.size ≠ w.heap.size + 1 := by omega
      have hp0 : y0 ≠ pa := by omega
      have hp1 : y1 ≠ pa := by omega
      have q0 : w5.cell? ⟨y0, 0, none⟩ = some (.int .i64 k1) := HY0.out.cell 0
      have q1 : w5.cell? ⟨y0, 1, none⟩ = some (.string nm1) := HY0.out.cell 1
      have q2 : w5.cell? ⟨y0, 2, none⟩ = some (.int .i64 n1) := HY0.out.cell 2
      have q3 : w5.cell? ⟨y0, 3, none⟩ = some (.slice A1 m1 ac1) := HY0.out.cell 3
      have q4 : w5.cell? ⟨y1, 0, none⟩ = some (.int .i64 k4) := HY1.out.cell 0
      have q5 : w5.cell? ⟨y1, 1, none⟩ = some (.string nm4) := HY1.out.cell 1
      have q6 : w5.cell? ⟨y1, 2, none⟩ = some (.int .i64 n4) := HY1.out.cell 2
      have q7 : w5.cell? ⟨y1, 3, none⟩ = some (.slice A4 m4 ac4) := HY1.out.cell 3
      have q8 : w5.cell? ⟨w.heap.size, 0, none⟩ = some (rdAcc ps pa) := HH5.out.rdr.cell 0
      have hba := (Below.refl w5.heap.size w5).alloc (Nat.le_refl _) (.cells #[.int .i64 k1, .string nm1, .int .i64 n1, .slice A1 m1 ac1, .int .i64 k4, .string nm4, .int .i64 n4, .slice A4 m4 ac4] 50)
      have HHa := Lib.hid (HH5.out.keep hba)
      have HYa := Lib.hid (HY0.out.below hba HY0.out.lt)
      have HYb := Lib.hid (HY1.out.below hba HY1.out.lt)
      clear hba
      rcases HOR4.out with ⟨rfl, hno⟩ | ⟨rfl, u, hyes, hO⟩
      · have HXF := Lib.hid (show rdTwo (rdOi n) (restOf s j) = none by rw [HX.out, rdLast, hno])
        have HHd := Lib.hid HHa.out.drew
        clear hno HOR4
        have d0 : (w5.alloc (.cells #[.int .i64 k1, .string nm1, .int .i64 n1, .slice A1 m1 ac1, .int .i64 k4, .string nm4, .int .i64 n4, .slice A4 m4 ac4] 50)).cell? ⟨w.heap.size + 1, 0, none⟩ = some (.int .i64 0) := HHa.out.zero.cell 0
        have d1 : (w5.alloc (.cells #[.int .i64 k1, .string nm1, .int .i64 n1, .slice A1 m1 ac1, .int .i64 k4, .string nm4, .int .i64 n4, .slice A4 m4 ac4] 50)).cell? ⟨w.heap.size + 1, 1, none⟩ = some (.string ⟨#[]⟩) := HHa.out.zero.cell 1
        have d2 : (w5.alloc (.cells #[.int .i64 k1, .string nm1, .int .i64 n1, .slice A1 m1 ac1, .int .i64 k4, .string nm4, .int .i64 n4, .slice A4 m4 ac4] 50)).cell? ⟨w.heap.size + 1, 2, none⟩ = some (.int .i64 0) := HHa.out.zero.cell 2
        have d3 : (w5.alloc (.cells #[.int .i64 k1, .string nm1, .int .i64 n1, .slice A1 m1 ac1, .int .i64 k4, .string nm4, .int .i64 n4, .slice A4 m4 ac4] 50)).cell? ⟨w.heap.size + 1, 3, none⟩ = some (.slice none 0 0) := HHa.out.zero.cell 3
        have f0 : (w5.alloc (.cells #[.int .i64 k1, .string nm1, .int .i64 n1, .slice A1 m1 ac1, .int .i64 k4, .string nm4, .int .i64 n4, .slice A4 m4 ac4] 50)).frozen? ⟨w.heap.size + 1, 0, none⟩ = false := HHa.out.zero.free 0
        have f1 : (w5.alloc (.cells #[.int .i64 k1, .string nm1, .int .i64 n1, .slice A1 m1 ac1, .int .i64 k4, .string nm4, .int .i64 n4, .slice A4 m4 ac4] 50)).frozen? ⟨w.heap.size + 1, 1, none⟩ = false := HHa.out.zero.free 1
        have f2 : (w5.alloc (.cells #[.int .i64 k1, .string nm1, .int .i64 n1, .slice A1 m1 ac1, .int .i64 k4, .string nm4, .int .i64 n4, .slice A4 m4 ac4] 50)).frozen? ⟨w.heap.size + 1, 2, none⟩ = false := HHa.out.zero.free 2
        have f3 : (w5.alloc (.cells #[.int .i64 k1, .string nm1, .int .i64 n1, .slice A1 m1 ac1, .int .i64 k4, .string nm4, .int .i64 n4, .slice A4 m4 ac4] 50)).frozen? ⟨w.heap.size + 1, 3, none⟩ = false := HHa.out.zero.free 3
        have qa0 : (w5.alloc (.cells #[.int .i64 k1, .string nm1, .int .i64 n1, .slice A1 m1 ac1, .int .i64 k4, .string nm4, .int .i64 n4, .slice A4 m4 ac4] 50)).cell? ⟨y0, 0, none⟩ = some (.int .i64 k1) := HYa.out.cell 0
        have qa1 : (w5.alloc (.cells #[.int .i64 k1, .string nm1, .int .i64 n1, .slice A1 m1 ac1, .int .i64 k4, .string nm4, .int .i64 n4, .slice A4 m4 ac4] 50)).cell? ⟨y0, 1, none⟩ = some (.string nm1) := HYa.out.cell 1
        have qa2 : (w5.alloc (.cells #[.int .i64 k1, .string nm1, .int .i64 n1, .slice A1 m1 ac1, .int .i64 k4, .string nm4, .int .i64 n4, .slice A4 m4 ac4] 50)).cell? ⟨y0, 2, none⟩ = some (.int .i64 n1) := HYa.out.cell 2
        have qa3 : (w5.alloc (.cells #[.int .i64 k1, .string nm1, .int .i64 n1, .slice A1 m1 ac1, .int .i64 k4, .string nm4, .int .i64 n4, .slice A4 m4 ac4] 50)).cell? ⟨y0, 3, none⟩ = some (.slice A1 m1 ac1) := HYa.out.cell 3
        have qa4 : (w5.alloc (.cells #[.int .i64 k1, .string nm1, .int .i64 n1, .slice A1 m1 ac1, .int .i64 k4, .string nm4, .int .i64 n4, .slice A4 m4 ac4] 50)).cell? ⟨y1, 0, none⟩ = some (.int .i64 k4) := HYb.out.cell 0
        have qa5 : (w5.alloc (.cells #[.int .i64 k1, .string nm1, .int .i64 n1, .slice A1 m1 ac1, .int .i64 k4, .string nm4, .int .i64 n4, .slice A4 m4 ac4] 50)).cell? ⟨y1, 1, none⟩ = some (.string nm4) := HYb.out.cell 1
        have qa6 : (w5.alloc (.cells #[.int .i64 k1, .string nm1, .int .i64 n1, .slice A1 m1 ac1, .int .i64 k4, .string nm4, .int .i64 n4, .slice A4 m4 ac4] 50)).cell? ⟨y1, 2, none⟩ = some (.int .i64 n4) := HYb.out.cell 2
        have qa7 : (w5.alloc (.cells #[.int .i64 k1, .string nm1, .int .i64 n1, .slice A1 m1 ac1, .int .i64 k4, .string nm4, .int .i64 n4, .slice A4 m4 ac4] 50)).cell? ⟨y1, 3, none⟩ = some (.slice A4 m4 ac4) := HYb.out.cell 3
        have qa8 : (w5.alloc (.cells #[.int .i64 k1, .string nm1, .int .i64 n1, .slice A1 m1 ac1, .int .i64 k4, .string nm4, .int .i64 n4, .slice A4 m4 ac4] 50)).cell? ⟨w.heap.size, 0, none⟩ = some (rdAcc ps pa) := HHa.out.rdr.cell 0
        go_region
        all_goals go_wp2
        all_goals exact bodyPost_ret (v := .tuple #[.agg #[.int .i64 k2, .string ⟨#[]⟩, .int .i64 0, .slice (some ⟨w5.heap.size, 0, none⟩) 2 2], .bool false]) (by simp [results, Tryd.results113, go_sem, d0, d1, d2, d3]) rfl (HHd.out.no HXF.out k2 0 ⟨#[]⟩ _ 2 2 _ _ _ _)
      · have HU := Lib.hid hyes
        have hIB := hO.owned.keep (w' := w5) (fun g hg hl => HK5.out.block g (by have := (osp _ hg).2; omega))
        rw [hy1] at hIB
        have HIB := Lib.hid hIB
        clear hIB
        clear hyes hO HOR4
        have HOA := Lib.hid (own_otwo (w1 := w5) (base := w.heap.size + 2) k2 0 ⟨#[]⟩ (Nat.zero_le _) (lo0 := wa.heap.size) (hi0 := y0) (lo1 := w3.heap.size) (hi1 := y1) (by omega) (by omega) (by omega) (by omega) (by omega) (by omega) HIA.out HIB.out)
        have qa0 : (w5.alloc (.cells #[.int .i64 k1, .string nm1, .int .i64 n1, .slice A1 m1 ac1, .int .i64 k4, .string nm4, .int .i64 n4, .slice A4 m4 ac4] 50)).cell? ⟨y0, 0, none⟩ = some (.int .i64 k1) := HYa.out.cell 0
        have qa1 : (w5.alloc (.cells #[.int .i64 k1, .string nm1, .int .i64 n1, .slice A1 m1 ac1, .int .i64 k4, .string nm4, .int .i64 n4, .slice A4 m4 ac4] 50)).cell? ⟨y0, 1, none⟩ = some (.string nm1) := HYa.out.cell 1
        have qa2 : (w5.alloc (.cells #[.int .i64 k1, .string nm1, .int .i64 n1, .slice A1 m1 ac1, .int .i64 k4, .string nm4, .int .i64 n4, .slice A4 m4 ac4] 50)).cell? ⟨y0, 2, none⟩ = some (.int .i64 n1) := HYa.out.cell 2
        have qa3 : (w5.alloc (.cells #[.int .i64 k1, .string nm1, .int .i64 n1, .slice A1 m1 ac1, .int .i64 k4, .string nm4, .int .i64 n4, .slice A4 m4 ac4] 50)).cell? ⟨y0, 3, none⟩ = some (.slice A1 m1 ac1) := HYa.out.cell 3
        have qa4 : (w5.alloc (.cells #[.int .i64 k1, .string nm1, .int .i64 n1, .slice A1 m1 ac1, .int .i64 k4, .string nm4, .int .i64 n4, .slice A4 m4 ac4] 50)).cell? ⟨y1, 0, none⟩ = some (.int .i64 k4) := HYb.out.cell 0
        have qa5 : (w5.alloc (.cells #[.int .i64 k1, .string nm1, .int .i64 n1, .slice A1 m1 ac1, .int .i64 k4, .string nm4, .int .i64 n4, .slice A4 m4 ac4] 50)).cell? ⟨y1, 1, none⟩ = some (.string nm4) := HYb.out.cell 1
        have qa6 : (w5.alloc (.cells #[.int .i64 k1, .string nm1, .int .i64 n1, .slice A1 m1 ac1, .int .i64 k4, .string nm4, .int .i64 n4, .slice A4 m4 ac4] 50)).cell? ⟨y1, 2, none⟩ = some (.int .i64 n4) := HYb.out.cell 2
        have qa7 : (w5.alloc (.cells #[.int .i64 k1, .string nm1, .int .i64 n1, .slice A1 m1 ac1, .int .i64 k4, .string nm4, .int .i64 n4, .slice A4 m4 ac4] 50)).cell? ⟨y1, 3, none⟩ = some (.slice A4 m4 ac4) := HYb.out.cell 3
        have qa8 : (w5.alloc (.cells #[.int .i64 k1, .string nm1, .int .i64 n1, .slice A1 m1 ac1, .int .i64 k4, .string nm4, .int .i64 n4, .slice A4 m4 ac4] 50)).cell? ⟨w.heap.size, 0, none⟩ = some (rdAcc ps pa) := HHa.out.rdr.cell 0
        have qd0 : w5.drew.cell? ⟨y0, 0, none⟩ = some (.int .i64 k1) := q0
        have qd1 : w5.drew.cell? ⟨y0, 1, none⟩ = some (.string nm1) := q1
        have qd2 : w5.drew.cell? ⟨y0, 2, none⟩ = some (.int .i64 n1) := q2
        have qd3 : w5.drew.cell? ⟨y0, 3, none⟩ = some (.slice A1 m1 ac1) := q3
        have qd4 : w5.drew.cell? ⟨y1, 0, none⟩ = some (.int .i64 k4) := q4
        have qd5 : w5.drew.cell? ⟨y1, 1, none⟩ = some (.string nm4) := q5
        have qd6 : w5.drew.cell? ⟨y1, 2, none⟩ = some (.int .i64 n4) := q6
        have qd7 : w5.drew.cell? ⟨y1, 3, none⟩ = some (.slice A4 m4 ac4) := q7
        have qd8 : w5.drew.cell? ⟨w.heap.size, 0, none⟩ = some (rdAcc ps pa) := q8
        have qe0 : (w5.alloc (.cells #[.int .i64 k1, .string nm1, .int .i64 n1, .slice A1 m1 ac1, .int .i64 k4, .string nm4, .int .i64 n4, .slice A4 m4 ac4] 50)).drew.cell? ⟨y0, 0, none⟩ = some (.int .i64 k1) := qa0
        have qe1 : (w5.alloc (.cells #[.int .i64 k1, .string nm1, .int .i64 n1, .slice A1 m1 ac1, .int .i64 k4, .string nm4, .int .i64 n4, .slice A4 m4 ac4] 50)).drew.cell? ⟨y0, 1, none⟩ = some (.string nm1) := qa1
        have qe2 : (w5.alloc (.cells #[.int .i64 k1, .string nm1, .int .i64 n1, .slice A1 m1 ac1, .int .i64 k4, .string nm4, .int .i64 n4, .slice A4 m4 ac4] 50)).drew.cell? ⟨y0, 2, none⟩ = some (.int .i64 n1) := qa2
        have qe3 : (w5.alloc (.cells #[.int .i64 k1, .string nm1, .int .i64 n1, .slice A1 m1 ac1, .int .i64 k4, .string nm4, .int .i64 n4, .slice A4 m4 ac4] 50)).drew.cell? ⟨y0, 3, none⟩ = some (.slice A1 m1 ac1) := qa3
        have qe4 : (w5.alloc (.cells #[.int .i64 k1, .string nm1, .int .i64 n1, .slice A1 m1 ac1, .int .i64 k4, .string nm4, .int .i64 n4, .slice A4 m4 ac4] 50)).drew.cell? ⟨y1, 0, none⟩ = some (.int .i64 k4) := qa4
        have qe5 : (w5.alloc (.cells #[.int .i64 k1, .string nm1, .int .i64 n1, .slice A1 m1 ac1, .int .i64 k4, .string nm4, .int .i64 n4, .slice A4 m4 ac4] 50)).drew.cell? ⟨y1, 1, none⟩ = some (.string nm4) := qa5
        have qe6 : (w5.alloc (.cells #[.int .i64 k1, .string nm1, .int .i64 n1, .slice A1 m1 ac1, .int .i64 k4, .string nm4, .int .i64 n4, .slice A4 m4 ac4] 50)).drew.cell? ⟨y1, 2, none⟩ = some (.int .i64 n4) := qa6
        have qe7 : (w5.alloc (.cells #[.int .i64 k1, .string nm1, .int .i64 n1, .slice A1 m1 ac1, .int .i64 k4, .string nm4, .int .i64 n4, .slice A4 m4 ac4] 50)).drew.cell? ⟨y1, 3, none⟩ = some (.slice A4 m4 ac4) := qa7
        have qe8 : (w5.alloc (.cells #[.int .i64 k1, .string nm1, .int .i64 n1, .slice A1 m1 ac1, .int .i64 k4, .string nm4, .int .i64 n4, .slice A4 m4 ac4] 50)).drew.cell? ⟨w.heap.size, 0, none⟩ = some (rdAcc ps pa) := qa8
        cases h41 : eat 41 (restOf s j4) with
        | some q5 =>
          have h41' := (eats_one 41 _).trans h41
          obtain ⟨hle5, rfl⟩ := eats_rest (p := ⟨#[41]⟩) HH5.out.rd.rd.le h41'
          have HA1 := Lib.hid (accE_yes ps pa j4 s ⟨#[41]⟩ _ w5.drew (HH5.out.rd.rd.drewN 1) hs h41')
          have HA2 := Lib.hid (accE_yes ps pa j4 s ⟨#[41]⟩ _ (w5.alloc (.cells #[.int .i64 k1, .string nm1, .int .i64 n1, .slice A1 m1 ac1, .int .i64 k4, .string nm4, .int .i64 n4, .slice A4 m4 ac4] 50)).drew (HHa.out.rd.rd.drewN 1) hs h41')
          have HXF := Lib.hid (show rdTwo (rdOi n) (restOf s j) = some (.mk k2 0 ⟨#[]⟩ [t, u], restOf s (j4 + (⟨#[41]⟩ : ByteArray).size)) by rw [HX.out, rdLast, HU.out]; simp only [h41])
          clear h41 h41'
          generalize j4 + (⟨#[41]⟩ : ByteArray).size = j5 at *
          go_region_held3 (fun x' : World => x'.cell? ⟨y0, 0, none⟩ = some (.int .i64 k1) ∧ x'.cell? ⟨y0, 1, none⟩ = some (.string nm1) ∧ x'.cell? ⟨y0, 2, none⟩ = some (.int .i64 n1) ∧ x'.cell? ⟨y0, 3, none⟩ = some (.slice A1 m1 ac1) ∧ x'.cell? ⟨y1, 0, none⟩ = some (.int .i64 k4) ∧ x'.cell? ⟨y1, 1, none⟩ = some (.string nm4) ∧ x'.cell? ⟨y1, 2, none⟩ = some (.int .i64 n4) ∧ x'.cell? ⟨y1, 3, none⟩ = some (.slice A4 m4 ac4) ∧ x'.cell? ⟨w.heap.size, 0, none⟩ = some (rdAcc ps pa)) (first | with_reducible exact ⟨q0, q1, q2, q3, q4, q5, q6, q7, q8⟩ | with_reducible exact ⟨qd0, qd1, qd2, qd3, qd4, qd5, qd6, qd7, qd8⟩ | with_reducible exact ⟨qe0, qe1, qe2, qe3, qe4, qe5, qe6, qe7, qe8⟩ | with_reducible exact ⟨qa0, qa1, qa2, qa3, qa4, qa5, qa6, qa7, qa8⟩ | with_reducible exact ⟨kc0, kc1, kc2, kc3, kc4, kc5, kc6, kc7, kc8⟩ | with_reducible exact ⟨kz0, kz1, kz2, kz3, kz4, kz5, kz6, kz7, kz8⟩ | with_reducible exact ⟨(hs0 _ _ _ _ _).trans kc0, (hs0 _ _ _ _ _).trans kc1, (hs0 _ _ _ _ _).trans kc2, (hs0 _ _ _ _ _).trans kc3, (hs1 _ _ _ _ _).trans kc4, (hs1 _ _ _ _ _).trans kc5, (hs1 _ _ _ _ _).trans kc6, (hs1 _ _ _ _ _).trans kc7, (hs2 _ _ _ _ _).trans kc8⟩ | with_reducible exact ⟨(hs0 _ _ _ _ _).trans kz0, (hs0 _ _ _ _ _).trans kz1, (hs0 _ _ _ _ _).trans kz2, (hs0 _ _ _ _ _).trans kz3, (hs1 _ _ _ _ _).trans kz4, (hs1 _ _ _ _ _).trans kz5, (hs1 _ _ _ _ _).trans kz6, (hs1 _ _ _ _ _).trans kz7, (hs2 _ _ _ _ _).trans kz8⟩ | go_keep) (first | (go_simp; go_at_call 108; (with_reducible refine HA1.out.mono ?_); rintro e w6 ⟨rfl, hr6, hg6'⟩; have hg6 := grown_undrewO hg6'; have hs6 := hg6.size; have hH6 := HH5.out.read hr6 hg6; have hx6 := HY0.out.grownO hg6 hp0; have hy6 := HY1.out.grownO hg6 hp1; have kc0 : w6.cell? ⟨y0, 0, none⟩ = some (.int .i64 k1) := hx6.cell 0; have kc1 : w6.cell? ⟨y0, 1, none⟩ = some (.string nm1) := hx6.cell 1; have kc2 : w6.cell? ⟨y0, 2, none⟩ = some (.int .i64 n1) := hx6.cell 2; have kc3 : w6.cell? ⟨y0, 3, none⟩ = some (.slice A1 m1 ac1) := hx6.cell 3; have kc4 : w6.cell? ⟨y1, 0, none⟩ = some (.int .i64 k4) := hy6.cell 0; have kc5 : w6.cell? ⟨y1, 1, none⟩ = some (.string nm4) := hy6.cell 1; have kc6 : w6.cell? ⟨y1, 2, none⟩ = some (.int .i64 n4) := hy6.cell 2; have kc7 : w6.cell? ⟨y1, 3, none⟩ = some (.slice A4 m4 ac4) := hy6.cell 3; have kc8 : w6.cell? ⟨w.heap.size, 0, none⟩ = some (rdAcc ps pa) := hH6.rdr.cell 0; have hO7 := own_otwo (w1 := w6) (base := w.heap.size + 2) k2 0 ⟨#[]⟩ (Nat.zero_le _) (lo0 := wa.heap.size) (hi0 := y0) (lo1 := w3.heap.size) (hi1 := y1) (by omega) (by omega) (by omega) (by omega) (by omega) (by omega) (HIA.out.keep (w' := w6) (fun g hg hl => hg6.block g hl (fun e => by injection e with e; have := (osp _ hg).1; omega))) (HIB.out.keep (w' := w6) (fun g hg hl => hg6.block g hl (fun e => by injection e with e; have := (osp _ hg).1; omega))); have HO7 := Lib.hid hO7; clear hO7; have hb7 := (Below.refl w6.heap.size w6).alloc (Nat.le_refl _) (.cells #[.int .i64 k1, .string nm1, .int .i64 n1, .slice A1 m1 ac1, .int .i64 k4, .string nm4, .int .i64 n4, .slice A4 m4 ac4] 50); have hH7 := hH6.keep hb7; have hx7 := hx6.below hb7 hx6.lt; have hy7 := hy6.below hb7 hy6.lt; have kz0 : (w6.alloc (.cells #[.int .i64 k1, .string nm1, .int .i64 n1, .slice A1 m1 ac1, .int .i64 k4, .string nm4, .int .i64 n4, .slice A4 m4 ac4] 50)).cell? ⟨y0, 0, none⟩ = some (.int .i64 k1) := hx7.cell 0; have kz1 : (w6.alloc (.cells #[.int .i64 k1, .string nm1, .int .i64 n1, .slice A1 m1 ac1, .int .i64 k4, .string nm4, .int .i64 n4, .slice A4 m4 ac4] 50)).cell? ⟨y0, 1, none⟩ = some (.string nm1) := hx7.cell 1; have kz2 : (w6.alloc (.cells #[.int .i64 k1, .string nm1, .int .i64 n1, .slice A1 m1 ac1, .int .i64 k4, .string nm4, .int .i64 n4, .slice A4 m4 ac4] 50)).cell? ⟨y0, 2, none⟩ = some (.int .i64 n1) := hx7.cell 2; have kz3 : (w6.alloc (.cells #[.int .i64 k1, .string nm1, .int .i64 n1, .slice A1 m1 ac1, .int .i64 k4, .string nm4, .int .i64 n4, .slice A4 m4 ac4] 50)).cell? ⟨y0, 3, none⟩ = some (.slice A1 m1 ac1) := hx7.cell 3; have kz4 : (w6.alloc (.cells #[.int .i64 k1, .string nm1, .int .i64 n1, .slice A1 m1 ac1, .int .i64 k4, .string nm4, .int .i64 n4, .slice A4 m4 ac4] 50)).cell? ⟨y1, 0, none⟩ = some (.int .i64 k4) := hy7.cell 0; have kz5 : (w6.alloc (.cells #[.int .i64 k1, .string nm1, .int .i64 n1, .slice A1 m1 ac1, .int .i64 k4, .string nm4, .int .i64 n4, .slice A4 m4 ac4] 50)).cell? ⟨y1, 1, none⟩ = some (.string nm4) := hy7.cell 1; have kz6 : (w6.alloc (.cells #[.int .i64 k1, .string nm1, .int .i64 n1, .slice A1 m1 ac1, .int .i64 k4, .string nm4, .int .i64 n4, .slice A4 m4 ac4] 50)).cell? ⟨y1, 2, none⟩ = some (.int .i64 n4) := hy7.cell 2; have kz7 : (w6.alloc (.cells #[.int .i64 k1, .string nm1, .int .i64 n1, .slice A1 m1 ac1, .int .i64 k4, .string nm4, .int .i64 n4, .slice A4 m4 ac4] 50)).cell? ⟨y1, 3, none⟩ = some (.slice A4 m4 ac4) := hy7.cell 3; have kz8 : (w6.alloc (.cells #[.int .i64 k1, .string nm1, .int .i64 n1, .slice A1 m1 ac1, .int .i64 k4, .string nm4, .int .i64 n4, .slice A4 m4 ac4] 50)).cell? ⟨w.heap.size, 0, none⟩ = some (rdAcc ps pa) := hH7.rdr.cell 0; have d0 : (w6.alloc (.cells #[.int .i64 k1, .string nm1, .int .i64 n1, .slice A1 m1 ac1, .int .i64 k4, .string nm4, .int .i64 n4, .slice A4 m4 ac4] 50)).cell? ⟨w.heap.size + 1, 0, none⟩ = some (.int .i64 0) := hH7.zero.cell 0; have d1 : (w6.alloc (.cells #[.int .i64 k1, .string nm1, .int .i64 n1, .slice A1 m1 ac1, .int .i64 k4, .string nm4, .int .i64 n4, .slice A4 m4 ac4] 50)).cell? ⟨w.heap.size + 1, 1, none⟩ = some (.string ⟨#[]⟩) := hH7.zero.cell 1; have d2 : (w6.alloc (.cells #[.int .i64 k1, .string nm1, .int .i64 n1, .slice A1 m1 ac1, .int .i64 k4, .string nm4, .int .i64 n4, .slice A4 m4 ac4] 50)).cell? ⟨w.heap.size + 1, 2, none⟩ = some (.int .i64 0) := hH7.zero.cell 2; have d3 : (w6.alloc (.cells #[.int .i64 k1, .string nm1, .int .i64 n1, .slice A1 m1 ac1, .int .i64 k4, .string nm4, .int .i64 n4, .slice A4 m4 ac4] 50)).cell? ⟨w.heap.size + 1, 3, none⟩ = some (.slice none 0 0) := hH7.zero.cell 3; have f0 : (w6.alloc (.cells #[.int .i64 k1, .string nm1, .int .i64 n1, .slice A1 m1 ac1, .int .i64 k4, .string nm4, .int .i64 n4, .slice A4 m4 ac4] 50)).frozen? ⟨w.heap.size + 1, 0, none⟩ = false := hH7.zero.free 0; have f1 : (w6.alloc (.cells #[.int .i64 k1, .string nm1, .int .i64 n1, .slice A1 m1 ac1, .int .i64 k4, .string nm4, .int .i64 n4, .slice A4 m4 ac4] 50)).frozen? ⟨w.heap.size + 1, 1, none⟩ = false := hH7.zero.free 1; have f2 : (w6.alloc (.cells #[.int .i64 k1, .string nm1, .int .i64 n1, .slice A1 m1 ac1, .int .i64 k4, .string nm4, .int .i64 n4, .slice A4 m4 ac4] 50)).frozen? ⟨w.heap.size + 1, 2, none⟩ = false := hH7.zero.free 2; have f3 : (w6.alloc (.cells #[.int .i64 k1, .string nm1, .int .i64 n1, .slice A1 m1 ac1, .int .i64 k4, .string nm4, .int .i64 n4, .slice A4 m4 ac4] 50)).frozen? ⟨w.heap.size + 1, 3, none⟩ = false := hH7.zero.free 3; have hs0 := fun a b c d i => oset4_cell ((w6.alloc (.cells #[.int .i64 k1, .string nm1, .int .i64 n1, .slice A1 m1 ac1, .int .i64 k4, .string nm4, .int .i64 n4, .slice A4 m4 ac4] 50))) (w.heap.size + 1) a b c d y0 i hn0; have hs1 := fun a b c d i => oset4_cell ((w6.alloc (.cells #[.int .i64 k1, .string nm1, .int .i64 n1, .slice A1 m1 ac1, .int .i64 k4, .string nm4, .int .i64 n4, .slice A4 m4 ac4] 50))) (w.heap.size + 1) a b c d y1 i hn1; have hs2 := fun a b c d i => oset4_cell ((w6.alloc (.cells #[.int .i64 k1, .string nm1, .int .i64 n1, .slice A1 m1 ac1, .int .i64 k4, .string nm4, .int .i64 n4, .slice A4 m4 ac4] 50))) (w.heap.size + 1) a b c d w.heap.size i hn2; have HH7 := Lib.hid hH7; clear hr6 hg6 hg6' hH6 hx6 hy6 hb7 hH7 hx7 hy7) | (go_simp; go_at_call 108; (with_reducible refine HA2.out.mono ?_); rintro e w6 ⟨rfl, hr6, hg6'⟩; have hg6 := grown_undrewO hg6'; have hs6 := hg6.size; have hH6 := HHa.out.read hr6 hg6; have hx6 := HYa.out.grownO hg6 hp0; have hy6 := HYb.out.grownO hg6 hp1; have kc0 : w6.cell? ⟨y0, 0, none⟩ = some (.int .i64 k1) := hx6.cell 0; have kc1 : w6.cell? ⟨y0, 1, none⟩ = some (.string nm1) := hx6.cell 1; have kc2 : w6.cell? ⟨y0, 2, none⟩ = some (.int .i64 n1) := hx6.cell 2; have kc3 : w6.cell? ⟨y0, 3, none⟩ = some (.slice A1 m1 ac1) := hx6.cell 3; have kc4 : w6.cell? ⟨y1, 0, none⟩ = some (.int .i64 k4) := hy6.cell 0; have kc5 : w6.cell? ⟨y1, 1, none⟩ = some (.string nm4) := hy6.cell 1; have kc6 : w6.cell? ⟨y1, 2, none⟩ = some (.int .i64 n4) := hy6.cell 2; have kc7 : w6.cell? ⟨y1, 3, none⟩ = some (.slice A4 m4 ac4) := hy6.cell 3; have kc8 : w6.cell? ⟨w.heap.size, 0, none⟩ = some (rdAcc ps pa) := hH6.rdr.cell 0; have HO6 := Lib.hid (HOA.out.keep (w' := w6) hg6.size (fun g hg hl => hg6.block g hl (fun e => by injection e with e; omega))); have d0 : w6.cell? ⟨w.heap.size + 1, 0, none⟩ = some (.int .i64 0) := hH6.zero.cell 0; have d1 : w6.cell? ⟨w.heap.size + 1, 1, none⟩ = some (.string ⟨#[]⟩) := hH6.zero.cell 1; have d2 : w6.cell? ⟨w.heap.size + 1, 2, none⟩ = some (.int .i64 0) := hH6.zero.cell 2; have d3 : w6.cell? ⟨w.heap.size + 1, 3, none⟩ = some (.slice none 0 0) := hH6.zero.cell 3; have f0 : w6.frozen? ⟨w.heap.size + 1, 0, none⟩ = false := hH6.zero.free 0; have f1 : w6.frozen? ⟨w.heap.size + 1, 1, none⟩ = false := hH6.zero.free 1; have f2 : w6.frozen? ⟨w.heap.size + 1, 2, none⟩ = false := hH6.zero.free 2; have f3 : w6.frozen? ⟨w.heap.size + 1, 3, none⟩ = false := hH6.zero.free 3; have hs0 := fun a b c d i => oset4_cell (w6) (w.heap.size + 1) a b c d y0 i hn0; have hs1 := fun a b c d i => oset4_cell (w6) (w.heap.size + 1) a b c d y1 i hn1; have hs2 := fun a b c d i => oset4_cell (w6) (w.heap.size + 1) a b c d w.heap.size i hn2; have HH6 := Lib.hid hH6; clear hr6 hg6 hg6' hH6 hx6 hy6))
          all_goals go_wp2
          all_goals first
            | exact bodyPost_ret (v := .tuple #[.agg #[.int .i64 k2, .string ⟨#[]⟩, .int .i64 0, .slice (some ⟨w5.heap.size, 0, none⟩) 2 2], .bool true]) (by simp [results, Tryd.results113, go_sem, d0, d1, d2, d3]) rfl (HH6.out.yes HXF.out HO6.out _ _ _ _)
            | exact bodyPost_ret (v := .tuple #[.agg #[.int .i64 k2, .string ⟨#[]⟩, .int .i64 0, .slice (some ⟨w6.heap.size, 0, none⟩) 2 2], .bool true]) (by simp [results, Tryd.results113, go_sem, d0, d1, d2, d3]) rfl (HH7.out.yes HXF.out HO7.out _ _ _ _)
        | none =>
          have h41' := (eats_one 41 _).trans h41
          have HA1 := Lib.hid (accE_no ps pa j4 s ⟨#[41]⟩ w5.drew (HH5.out.rd.rd.drewN 1) h41')
          have HA2 := Lib.hid (accE_no ps pa j4 s ⟨#[41]⟩ (w5.alloc (.cells #[.int .i64 k1, .string nm1, .int .i64 n1, .slice A1 m1 ac1, .int .i64 k4, .string nm4, .int .i64 n4, .slice A4 m4 ac4] 50)).drew (HHa.out.rd.rd.drewN 1) h41')
          have HXF := Lib.hid (show rdTwo (rdOi n) (restOf s j) = none by rw [HX.out, rdLast, HU.out]; simp only [h41])
          clear h41 h41'
          go_region_held3 (fun x' : World => x'.cell? ⟨y0, 0, none⟩ = some (.int .i64 k1) ∧ x'.cell? ⟨y0, 1, none⟩ = some (.string nm1) ∧ x'.cell? ⟨y0, 2, none⟩ = some (.int .i64 n1) ∧ x'.cell? ⟨y0, 3, none⟩ = some (.slice A1 m1 ac1) ∧ x'.cell? ⟨y1, 0, none⟩ = some (.int .i64 k4) ∧ x'.cell? ⟨y1, 1, none⟩ = some (.string nm4) ∧ x'.cell? ⟨y1, 2, none⟩ = some (.int .i64 n4) ∧ x'.cell? ⟨y1, 3, none⟩ = some (.slice A4 m4 ac4) ∧ x'.cell? ⟨w.heap.size, 0, none⟩ = some (rdAcc ps pa)) (first | with_reducible exact ⟨q0, q1, q2, q3, q4, q5, q6, q7, q8⟩ | with_reducible exact ⟨qd0, qd1, qd2, qd3, qd4, qd5, qd6, qd7, qd8⟩ | with_reducible exact ⟨qe0, qe1, qe2, qe3, qe4, qe5, qe6, qe7, qe8⟩ | with_reducible exact ⟨qa0, qa1, qa2, qa3, qa4, qa5, qa6, qa7, qa8⟩ | with_reducible exact ⟨kc0, kc1, kc2, kc3, kc4, kc5, kc6, kc7, kc8⟩ | with_reducible exact ⟨kz0, kz1, kz2, kz3, kz4, kz5, kz6, kz7, kz8⟩ | with_reducible exact ⟨(hs0 _ _ _ _ _).trans kc0, (hs0 _ _ _ _ _).trans kc1, (hs0 _ _ _ _ _).trans kc2, (hs0 _ _ _ _ _).trans kc3, (hs1 _ _ _ _ _).trans kc4, (hs1 _ _ _ _ _).trans kc5, (hs1 _ _ _ _ _).trans kc6, (hs1 _ _ _ _ _).trans kc7, (hs2 _ _ _ _ _).trans kc8⟩ | with_reducible exact ⟨(hs0 _ _ _ _ _).trans kz0, (hs0 _ _ _ _ _).trans kz1, (hs0 _ _ _ _ _).trans kz2, (hs0 _ _ _ _ _).trans kz3, (hs1 _ _ _ _ _).trans kz4, (hs1 _ _ _ _ _).trans kz5, (hs1 _ _ _ _ _).trans kz6, (hs1 _ _ _ _ _).trans kz7, (hs2 _ _ _ _ _).trans kz8⟩ | go_keep) (first | (go_simp; go_at_call 108; (with_reducible refine HA1.out.mono ?_); rintro e w6 ⟨rfl, hr6, hg6'⟩; have hg6 := grown_undrewO hg6'; have hs6 := hg6.size; have hH6 := HH5.out.read hr6 hg6; have hx6 := HY0.out.grownO hg6 hp0; have hy6 := HY1.out.grownO hg6 hp1; have kc0 : w6.cell? ⟨y0, 0, none⟩ = some (.int .i64 k1) := hx6.cell 0; have kc1 : w6.cell? ⟨y0, 1, none⟩ = some (.string nm1) := hx6.cell 1; have kc2 : w6.cell? ⟨y0, 2, none⟩ = some (.int .i64 n1) := hx6.cell 2; have kc3 : w6.cell? ⟨y0, 3, none⟩ = some (.slice A1 m1 ac1) := hx6.cell 3; have kc4 : w6.cell? ⟨y1, 0, none⟩ = some (.int .i64 k4) := hy6.cell 0; have kc5 : w6.cell? ⟨y1, 1, none⟩ = some (.string nm4) := hy6.cell 1; have kc6 : w6.cell? ⟨y1, 2, none⟩ = some (.int .i64 n4) := hy6.cell 2; have kc7 : w6.cell? ⟨y1, 3, none⟩ = some (.slice A4 m4 ac4) := hy6.cell 3; have kc8 : w6.cell? ⟨w.heap.size, 0, none⟩ = some (rdAcc ps pa) := hH6.rdr.cell 0; have hb7 := (Below.refl w6.heap.size w6).alloc (Nat.le_refl _) (.cells #[.int .i64 k1, .string nm1, .int .i64 n1, .slice A1 m1 ac1, .int .i64 k4, .string nm4, .int .i64 n4, .slice A4 m4 ac4] 50); have hH7 := hH6.keep hb7; have hx7 := hx6.below hb7 hx6.lt; have hy7 := hy6.below hb7 hy6.lt; have kz0 : (w6.alloc (.cells #[.int .i64 k1, .string nm1, .int .i64 n1, .slice A1 m1 ac1, .int .i64 k4, .string nm4, .int .i64 n4, .slice A4 m4 ac4] 50)).cell? ⟨y0, 0, none⟩ = some (.int .i64 k1) := hx7.cell 0; have kz1 : (w6.alloc (.cells #[.int .i64 k1, .string nm1, .int .i64 n1, .slice A1 m1 ac1, .int .i64 k4, .string nm4, .int .i64 n4, .slice A4 m4 ac4] 50)).cell? ⟨y0, 1, none⟩ = some (.string nm1) := hx7.cell 1; have kz2 : (w6.alloc (.cells #[.int .i64 k1, .string nm1, .int .i64 n1, .slice A1 m1 ac1, .int .i64 k4, .string nm4, .int .i64 n4, .slice A4 m4 ac4] 50)).cell? ⟨y0, 2, none⟩ = some (.int .i64 n1) := hx7.cell 2; have kz3 : (w6.alloc (.cells #[.int .i64 k1, .string nm1, .int .i64 n1, .slice A1 m1 ac1, .int .i64 k4, .string nm4, .int .i64 n4, .slice A4 m4 ac4] 50)).cell? ⟨y0, 3, none⟩ = some (.slice A1 m1 ac1) := hx7.cell 3; have kz4 : (w6.alloc (.cells #[.int .i64 k1, .string nm1, .int .i64 n1, .slice A1 m1 ac1, .int .i64 k4, .string nm4, .int .i64 n4, .slice A4 m4 ac4] 50)).cell? ⟨y1, 0, none⟩ = some (.int .i64 k4) := hy7.cell 0; have kz5 : (w6.alloc (.cells #[.int .i64 k1, .string nm1, .int .i64 n1, .slice A1 m1 ac1, .int .i64 k4, .string nm4, .int .i64 n4, .slice A4 m4 ac4] 50)).cell? ⟨y1, 1, none⟩ = some (.string nm4) := hy7.cell 1; have kz6 : (w6.alloc (.cells #[.int .i64 k1, .string nm1, .int .i64 n1, .slice A1 m1 ac1, .int .i64 k4, .string nm4, .int .i64 n4, .slice A4 m4 ac4] 50)).cell? ⟨y1, 2, none⟩ = some (.int .i64 n4) := hy7.cell 2; have kz7 : (w6.alloc (.cells #[.int .i64 k1, .string nm1, .int .i64 n1, .slice A1 m1 ac1, .int .i64 k4, .string nm4, .int .i64 n4, .slice A4 m4 ac4] 50)).cell? ⟨y1, 3, none⟩ = some (.slice A4 m4 ac4) := hy7.cell 3; have kz8 : (w6.alloc (.cells #[.int .i64 k1, .string nm1, .int .i64 n1, .slice A1 m1 ac1, .int .i64 k4, .string nm4, .int .i64 n4, .slice A4 m4 ac4] 50)).cell? ⟨w.heap.size, 0, none⟩ = some (rdAcc ps pa) := hH7.rdr.cell 0; have d0 : (w6.alloc (.cells #[.int .i64 k1, .string nm1, .int .i64 n1, .slice A1 m1 ac1, .int .i64 k4, .string nm4, .int .i64 n4, .slice A4 m4 ac4] 50)).cell? ⟨w.heap.size + 1, 0, none⟩ = some (.int .i64 0) := hH7.zero.cell 0; have d1 : (w6.alloc (.cells #[.int .i64 k1, .string nm1, .int .i64 n1, .slice A1 m1 ac1, .int .i64 k4, .string nm4, .int .i64 n4, .slice A4 m4 ac4] 50)).cell? ⟨w.heap.size + 1, 1, none⟩ = some (.string ⟨#[]⟩) := hH7.zero.cell 1; have d2 : (w6.alloc (.cells #[.int .i64 k1, .string nm1, .int .i64 n1, .slice A1 m1 ac1, .int .i64 k4, .string nm4, .int .i64 n4, .slice A4 m4 ac4] 50)).cell? ⟨w.heap.size + 1, 2, none⟩ = some (.int .i64 0) := hH7.zero.cell 2; have d3 : (w6.alloc (.cells #[.int .i64 k1, .string nm1, .int .i64 n1, .slice A1 m1 ac1, .int .i64 k4, .string nm4, .int .i64 n4, .slice A4 m4 ac4] 50)).cell? ⟨w.heap.size + 1, 3, none⟩ = some (.slice none 0 0) := hH7.zero.cell 3; have f0 : (w6.alloc (.cells #[.int .i64 k1, .string nm1, .int .i64 n1, .slice A1 m1 ac1, .int .i64 k4, .string nm4, .int .i64 n4, .slice A4 m4 ac4] 50)).frozen? ⟨w.heap.size + 1, 0, none⟩ = false := hH7.zero.free 0; have f1 : (w6.alloc (.cells #[.int .i64 k1, .string nm1, .int .i64 n1, .slice A1 m1 ac1, .int .i64 k4, .string nm4, .int .i64 n4, .slice A4 m4 ac4] 50)).frozen? ⟨w.heap.size + 1, 1, none⟩ = false := hH7.zero.free 1; have f2 : (w6.alloc (.cells #[.int .i64 k1, .string nm1, .int .i64 n1, .slice A1 m1 ac1, .int .i64 k4, .string nm4, .int .i64 n4, .slice A4 m4 ac4] 50)).frozen? ⟨w.heap.size + 1, 2, none⟩ = false := hH7.zero.free 2; have f3 : (w6.alloc (.cells #[.int .i64 k1, .string nm1, .int .i64 n1, .slice A1 m1 ac1, .int .i64 k4, .string nm4, .int .i64 n4, .slice A4 m4 ac4] 50)).frozen? ⟨w.heap.size + 1, 3, none⟩ = false := hH7.zero.free 3; have hs0 := fun a b c d i => oset4_cell ((w6.alloc (.cells #[.int .i64 k1, .string nm1, .int .i64 n1, .slice A1 m1 ac1, .int .i64 k4, .string nm4, .int .i64 n4, .slice A4 m4 ac4] 50))) (w.heap.size + 1) a b c d y0 i hn0; have hs1 := fun a b c d i => oset4_cell ((w6.alloc (.cells #[.int .i64 k1, .string nm1, .int .i64 n1, .slice A1 m1 ac1, .int .i64 k4, .string nm4, .int .i64 n4, .slice A4 m4 ac4] 50))) (w.heap.size + 1) a b c d y1 i hn1; have hs2 := fun a b c d i => oset4_cell ((w6.alloc (.cells #[.int .i64 k1, .string nm1, .int .i64 n1, .slice A1 m1 ac1, .int .i64 k4, .string nm4, .int .i64 n4, .slice A4 m4 ac4] 50))) (w.heap.size + 1) a b c d w.heap.size i hn2; have HH7 := Lib.hid hH7; clear hr6 hg6 hg6' hH6 hx6 hy6 hb7 hH7 hx7 hy7) | (go_simp; go_at_call 108; (with_reducible refine HA2.out.mono ?_); rintro e w6 ⟨rfl, hr6, hg6'⟩; have hg6 := grown_undrewO hg6'; have hs6 := hg6.size; have hH6 := HHa.out.read hr6 hg6; have hx6 := HYa.out.grownO hg6 hp0; have hy6 := HYb.out.grownO hg6 hp1; have kc0 : w6.cell? ⟨y0, 0, none⟩ = some (.int .i64 k1) := hx6.cell 0; have kc1 : w6.cell? ⟨y0, 1, none⟩ = some (.string nm1) := hx6.cell 1; have kc2 : w6.cell? ⟨y0, 2, none⟩ = some (.int .i64 n1) := hx6.cell 2; have kc3 : w6.cell? ⟨y0, 3, none⟩ = some (.slice A1 m1 ac1) := hx6.cell 3; have kc4 : w6.cell? ⟨y1, 0, none⟩ = some (.int .i64 k4) := hy6.cell 0; have kc5 : w6.cell? ⟨y1, 1, none⟩ = some (.string nm4) := hy6.cell 1; have kc6 : w6.cell? ⟨y1, 2, none⟩ = some (.int .i64 n4) := hy6.cell 2; have kc7 : w6.cell? ⟨y1, 3, none⟩ = some (.slice A4 m4 ac4) := hy6.cell 3; have kc8 : w6.cell? ⟨w.heap.size, 0, none⟩ = some (rdAcc ps pa) := hH6.rdr.cell 0; have d0 : w6.cell? ⟨w.heap.size + 1, 0, none⟩ = some (.int .i64 0) := hH6.zero.cell 0; have d1 : w6.cell? ⟨w.heap.size + 1, 1, none⟩ = some (.string ⟨#[]⟩) := hH6.zero.cell 1; have d2 : w6.cell? ⟨w.heap.size + 1, 2, none⟩ = some (.int .i64 0) := hH6.zero.cell 2; have d3 : w6.cell? ⟨w.heap.size + 1, 3, none⟩ = some (.slice none 0 0) := hH6.zero.cell 3; have f0 : w6.frozen? ⟨w.heap.size + 1, 0, none⟩ = false := hH6.zero.free 0; have f1 : w6.frozen? ⟨w.heap.size + 1, 1, none⟩ = false := hH6.zero.free 1; have f2 : w6.frozen? ⟨w.heap.size + 1, 2, none⟩ = false := hH6.zero.free 2; have f3 : w6.frozen? ⟨w.heap.size + 1, 3, none⟩ = false := hH6.zero.free 3; have hs0 := fun a b c d i => oset4_cell (w6) (w.heap.size + 1) a b c d y0 i hn0; have hs1 := fun a b c d i => oset4_cell (w6) (w.heap.size + 1) a b c d y1 i hn1; have hs2 := fun a b c d i => oset4_cell (w6) (w.heap.size + 1) a b c d w.heap.size i hn2; have HH6 := Lib.hid hH6; clear hr6 hg6 hg6' hH6 hx6 hy6))
          all_goals go_wp2
          all_goals first
            | exact bodyPost_ret (v := .tuple #[.agg #[.int .i64 k2, .string ⟨#[]⟩, .int .i64 0, .slice (some ⟨w5.heap.size, 0, none⟩) 2 2], .bool false]) (by simp [results, Tryd.results113, go_sem, d0, d1, d2, d3]) rfl (HH6.out.no HXF.out k2 0 ⟨#[]⟩ _ 2 2 _ _ _ _)
            | exact bodyPost_ret (v := .tuple #[.agg #[.int .i64 k2, .string ⟨#[]⟩, .int .i64 0, .slice (some ⟨w6.heap.size, 0, none⟩) 2 2], .bool false]) (by simp [results, Tryd.results113, go_sem, d0, d1, d2, d3]) rfl (HH7.out.no HXF.out k2 0 ⟨#[]⟩ _ 2 2 _ _ _ _)

end Go.Proofs.YtlmbnefoobameaaDoor.OI
end
