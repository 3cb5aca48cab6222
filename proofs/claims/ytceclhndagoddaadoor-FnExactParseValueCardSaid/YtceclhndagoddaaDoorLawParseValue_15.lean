/- Lemmas: SpecVText, SpecVParse, ImplIsName. -/
import Derived.Test.YtceclhndagoddaaDoorLawParseValue_9
import Derived.Test.YtceclhndagoddaaDoorLawParseValue_14
import Derived.Test.YtceclhndagoddaaDoorLawParseValue_12
import Derived.BigGuard
import Derived.Shelf.LaysM
import Derived.Shelf.Strconv.Clone
import Derived.Test.YtceclhndagoddaaDoorProg
import Derived.Test.YtceclhndagoddaaDoorLawParseValue_4
import Derived.Test.YtceclhndagoddaaDoorLawParseValue_2
import Derived.Laws.RangeAny

section
namespace Go.Proofs.YtceclhndagoddaaDoor
open Go.RowKit

/-- What the text is joined of. -/
def piecesV (k : Int) (ls : List ByteArray) (ts : List Va) : List (List UInt8) := if k = 3 then labE ls (txtVs ts) else txtVs ts
theorem byte5 (a : UInt8) (x : ByteArray) (b : UInt8) (y : List UInt8) (c : UInt8) : (⟨#[a]⟩ ++ x ++ ⟨#[b]⟩ ++ ⟨y.toArray⟩ ++ ⟨#[c]⟩ : ByteArray) = ⟨(a :: (x.data.toList ++ b :: (y ++ [c]))).toArray⟩ := by
  apply ByteArray.ext
  simp only [ByteArray.data_append]
  apply Array.toList_inj.1
  simp
theorem sizeVas_len : ∀ (ts : List Va), ts.length ≤ sizeVas ts
  | [] => Nat.le_refl _
  | t :: r => by
    have h1 := sizeVas_len r
    have h2 := sizeVa_eq t
    rw [sizeVas, List.length_cons]
    omega
def TextVOne (f : Nat) (t : Va) : Prop := ∀ (v : Value) (w : World), VaAt w w.heap.size v t → formVa t = true → numsB t = true → sizeVa t ≤ 1000 → Calls Tryd.prog f #[v] w (StrIs ⟨(txtV t).toArray⟩ w)

set_option maxHeartbeats 8000000 in
set_option maxRecDepth 100000 in
theorem specTextV_of (k0 n0 : Int) (nm : ByteArray) (ls : List ByteArray) (ts : List Va) (hall : ∀ i, (h : i < ts.length) → TextVOne 67 ts[i]) : TextVOne 67 (.mk k0 n0 nm ls ts) := by
  intro v w hv hf hq hsz
  obtain ⟨i0, hi, hz0, hz1, hz2⟩ := info_parts infoString
  have htx : txtV (.mk k0 n0 nm ls ts) = nodeTxtV k0 n0 nm ls (txtVs ts) := by rw [txtV]
  rw [formVa, Bool.and_eq_true] at hf
  obtain ⟨hq1, hq2⟩ := numsB_of _ hq
  simp only [Va.num, Va.args] at hq1 hq2
  obtain ⟨hsum, hlts⟩ := txtVs_sum ts fun i hi => txtV_len ts[i] (formVas_get hf.1 i hi) (hq2 i hi)
  have hsz2 : 1 + sizeVas ts ≤ 1000 := by rw [sizeVa] at hsz; exact hsz
  have HF := Lib.hid hf.1
  have hkind := nodeVB_kind hf.2
  have hpl : (bytesOf (piecesV k0 ls ts)).length = ts.length := by
    rw [bytesOf_len]
    unfold piecesV
    split
    · rcases hkind with ⟨h1, _⟩ | ⟨h1, _⟩ | ⟨h1, h2, _⟩ | ⟨h1, _⟩ | h1
      · omega
      · omega
      · rw [labE_same _ _ (by omega)]
        exact h2
      · omega
      · omega
    · exact hlts
  have hps : sumLens (piecesV k0 ls ts) ≤ 26000 := by
    unfold piecesV
    split
    · rcases hkind with ⟨h1, _⟩ | ⟨h1, _⟩ | ⟨h1, h2, h3⟩ | ⟨h1, _⟩ | h1
      · omega
      · omega
      · have := (labE_sum ls (txtVs ts) fun l hl => name_len (labelsB_names h3 l hl)).1
        omega
      · omega
      · omega
    · omega
  have hnms : k0 = 4 → nm.size ≤ 4 := fun h => by
    rcases hkind with ⟨h1, _⟩ | ⟨h1, _⟩ | ⟨h1, _⟩ | ⟨h1, _, h2⟩ | h1
    · omega
    · omega
    · omega
    · exact name_len h2
    · omega
  have HKIND := Lib.hid hkind
  have HPL := Lib.hid hpl
  have HPS := Lib.hid hps
  have HTX := Lib.hid htx
  have HALL := Lib.hid hall
  have HNQ := Lib.hid hq2
  have HNM := Lib.hid hnms
  have HQ1 := Lib.hid hq1
  obtain ⟨L, lc, A, ac, rfl, hnm, hn, hz, hl, ha⟩ := hv.open
  simp only [Va.kind, Va.num, Va.name, Va.labels, Va.args] at *
  have hm := ha.1
  clear hall hv hz hf hkind hpl hps htx hsum hlts hq hq2 hnms hnm hq1
  obtain ⟨hb0, p0, q0, hs0⟩ := boxes2 w 25 9 #[.int .i64 k0, .int .i64 n0, .string nm, .slice L ls.length lc, .slice A ts.length ac] #[]
  have hown0 : ((w.alloc (.cells #[.int .i64 k0, .int .i64 n0, .string nm, .slice L ls.length lc, .slice A ts.length ac] 25)).alloc (.cells #[] 9)).ownsRow (w.heap.size + 1) 9 1 (.slice (some ⟨w.heap.size + 1, 0, none⟩) 0 0) 0 [] := by
    have := World.ownsRow_lit (base := w.heap.size + 1) (e := 9) (size := 1) (w.alloc (.cells #[.int .i64 k0, .int .i64 n0, .string nm, .slice L ls.length lc, .slice A ts.length ac] 25)) #[] 0 (by simp) (Nat.zero_le _) rfl
    rw [show (w.alloc (.cells #[.int .i64 k0, .int .i64 n0, .string nm, .slice L ls.length lc, .slice A ts.length ac] 25)).heap.size = w.heap.size + 1 by simp] at this
    exact this
  have ha0 := ha.below hb0
  have hl0 := hl.below hb0
  have HZ := Lib.hid hs0
  have hszw : w.heap.size + 2 ≤ ((w.alloc (.cells #[.int .i64 k0, .int .i64 n0, .string nm, .slice L ls.length lc, .slice A ts.length ac] 25)).alloc (.cells #[] 9)).heap.size := by omega
  clear hs0 ha hl q0
  go_enter Tryd.func67, Tryd.ntmps67
  go_wp2
  generalize (w.alloc (.cells #[.int .i64 k0, .int .i64 n0, .string nm, .slice L ls.length lc, .slice A ts.length ac] 25)).alloc (.cells #[] 9) = w0 at *
  have hpw := p0.lt
  go_loopw [3, 4] (fun a i wr => ∃ k : Nat, k ≤ ts.length ∧ i = .int .i64 k ∧ wr.ownsRow (w.heap.size + 1) 9 1 a k (strVals ((bytesOf (piecesV k0 ls ts)).take k)) ∧ Below (w.heap.size + 1) w0 wr) (fun _ i _ => ts.length - (intOf i).toNat)
  case atStart => exact ⟨0, Nat.zero_le _, rfl, hown0, Below.refl _ _⟩
  case round =>
    obtain ⟨k, hk, rfl, hown, hb⟩ := hrel
    have hbW := hb.mono (Nat.le_succ w.heap.size)
    have p1 := p0.below hb (Nat.lt_succ_self _)
    have c0 : wr.cell? ⟨w.heap.size, 0, none⟩ = some (.int .i64 k0) := p1.cell 0
    have c1 : wr.cell? ⟨w.heap.size, 1, none⟩ = some (.int .i64 n0) := p1.cell 1
    have c2 : wr.cell? ⟨w.heap.size, 2, none⟩ = some (.string nm) := p1.cell 2
    have c3 : wr.cell? ⟨w.heap.size, 3, none⟩ = some (.slice L ls.length lc) := p1.cell 3
    have c4 : wr.cell? ⟨w.heap.size, 4, none⟩ = some (.slice A ts.length ac) := p1.cell 4
    have hbs := hb.size
    by_cases hlt : k < ts.length
    · obtain ⟨b, off, L1, lc1, A1, ac1, rfl, hbl, q0, q1, q2, q3, q4, ht⟩ := (ha0.below hbW).elem k hlt
      have htk := sizeVas_take ts k hlt
      have htl := sizeVas_le ts (k + 1)
      have htx := Lib.hid (txtV_len ts[k] (formVas_get HF.out k hlt) (HNQ.out k hlt))
      have htk2 : sizeVa ts[k] ≤ 999 := by omega
      have htk3 : ts.length ≤ 1000 := by have := sizeVas_len ts; omega
      have HT := Lib.hid (HALL.out k hlt _ wr (ht.more (by omega)) (formVas_get HF.out k hlt) (HNQ.out k hlt) (by omega))
      clear ht htk htl
      go_wp2_with fail
      refine HT.out.mono ?_
      rintro e w3 ⟨rfl, hb3'⟩
      have hb3 := hb.trans (hb3'.mono (by omega))
      have HOWN := Lib.hid (own_keep1 (w' := w3) hown (fun g hg => hb3'.block g (hown.lt g hg).2))
      have p3 := p0.below hb3 (Nat.lt_succ_self _)
      have d0 : w3.cell? ⟨w.heap.size, 0, none⟩ = some (.int .i64 k0) := p3.cell 0
      have d3 : w3.cell? ⟨w.heap.size, 3, none⟩ = some (.slice L ls.length lc) := p3.cell 3
      have HL := Lib.hid (hl0.below (hb3.mono (Nat.le_succ w.heap.size)))
      have hs3 := hb3.size
      clear hown p1 p3 c0 c1 c2 c3 c4 q0 q1 q2 q3 q4
      by_cases h5 : k0 = 3
      · have hlk : k < ls.length := by
          rcases HKIND.out with ⟨h1, _⟩ | ⟨h1, _⟩ | ⟨h1, h2, _⟩ | ⟨h1, _⟩ | h1 <;> omega
        have hlkI : (k : Int) < (ls.length : Int) := by omega
        obtain ⟨bl, ol, rfl, hbl2, hcl⟩ := HL.out k hlk
        have hl4 : ls[k].size ≤ 4 := by
          rcases HKIND.out with ⟨h1, _⟩ | ⟨h1, _⟩ | ⟨h1, h2, h3⟩ | ⟨h1, _⟩ | h1
          · omega
          · omega
          · exact name_len (labelsB_names h3 _ (List.getElem_mem hlk))
          · omega
          · omega
        have hj1 : ¬ 9223372036854775807 < ls[k].size + 1 := by omega
        have hj2 : ¬ 9223372036854775807 < ls[k].size + 1 + (txtV ts[k]).length := by have := htx.out; omega
        have HPK : Hid ((bytesOf (piecesV k0 ls ts))[k]'(by rw [HPL.out]; exact hlt) = (ls[k] ++ ⟨#[61]⟩ ++ ⟨(txtV ts[k]).toArray⟩)) := Lib.hid (by
          simp only [bytesOf, piecesV, if_pos h5, List.getElem_map]
          rw [labE_get ls (txtVs ts) k hlk (by rw [txtVs_map]; simpa using hlt)]
          apply ByteArray.ext
          rw [ByteArray.data_append, ByteArray.data_append]
          simp [txtVs_map])
        subst h5
        go_wp2_with (at_builtin; refine wpList_append_own _ rfl (.tmp 31) (.tmp 33) _ rfl (w.heap.size + 1) 9 i0 (.string ⟨#[]⟩) 1 16 Tryd.underlying22 hi hz0 hz1 hz2 rfl (by decide) _ _ _ rfl (HOWN.out.alloc _) ⟨w3.heap.size, 0, none⟩ 1 1 [.string (ls[k] ++ ⟨#[61]⟩ ++ ⟨(txtV ts[k]).toArray⟩)] rfl rfl (cellNew w3 9 _) (by intro u hu; simp at hu; subst hu; rfl) (by unfold maxLen; omega) (by omega) (by have := hb3.size; simp; omega) ?_; intro v1 w4 hown1 hg1 _)
        go_roundw
        case rel => exact ⟨k + 1, by omega, by go_num, by rw [show strVals ((bytesOf (piecesV 3 ls ts)).take (k + 1)) = strVals ((bytesOf (piecesV 3 ls ts)).take k) ++ [.string (ls[k] ++ ⟨#[61]⟩ ++ ⟨(txtV ts[k]).toArray⟩)] from by rw [List.take_succ_eq_append_getElem (by rw [HPL.out]; omega), HPK.out]; simp [strVals]]; exact hown1, (hb3.alloc (by omega) _).grown hg1 (by have := hb3.size; simp; omega) (fun q hq => by have := (HOWN.out.lt q hq).1; omega)⟩
        case measure => simp [intOf]; omega
      · have HPK : Hid ((bytesOf (piecesV k0 ls ts))[k]'(by rw [HPL.out]; exact hlt) = ⟨(txtV ts[k]).toArray⟩) := Lib.hid (by
          simp only [bytesOf, piecesV, if_neg h5, List.getElem_map, txtVs_map])
        have hk5 : (k0 == 3) = false := by rw [beq_eq_false_iff_ne]; exact h5
        go_wp2_with (at_builtin; refine wpList_append_own _ rfl (.tmp 31) (.tmp 33) _ rfl (w.heap.size + 1) 9 i0 (.string ⟨#[]⟩) 1 16 Tryd.underlying22 hi hz0 hz1 hz2 rfl (by decide) _ _ _ rfl (HOWN.out.alloc _) ⟨w3.heap.size, 0, none⟩ 1 1 [.string ⟨(txtV ts[k]).toArray⟩] rfl rfl (cellNew w3 9 _) (by intro u hu; simp at hu; subst hu; rfl) (by unfold maxLen; omega) (by omega) (by have := hb3.size; simp; omega) ?_; intro v1 w4 hown1 hg1 _)
        go_roundw
        case rel => exact ⟨k + 1, by omega, by go_num, by rw [show strVals ((bytesOf (piecesV k0 ls ts)).take (k + 1)) = strVals ((bytesOf (piecesV k0 ls ts)).take k) ++ [.string ⟨(txtV ts[k]).toArray⟩] from by rw [List.take_succ_eq_append_getElem (by rw [HPL.out]; omega), HPK.out]; simp [strVals]]; exact hown1, (hb3.alloc (by omega) _).grown hg1 (by have := hb3.size; simp; omega) (fun q hq => by have := (HOWN.out.lt q hq).1; omega)⟩
        case measure => simp [intOf]; omega
    · have hke : k = ts.length := by omega
      subst hke
      rw [List.take_of_length_le (by rw [HPL.out]; exact Nat.le_refl _)] at hown
      obtain ⟨A3, c5, rfl, hst⟩ := own_strings hown
      have HB := Lib.hid (hb0.trans hbW)
      have hpn : (bytesOf (piecesV k0 ls ts)).length = ts.length := HPL.out
      have htk3 : ts.length ≤ 1000 := by have := sizeVas_len ts; omega
      have HJ := Lib.hid (specJoin_any A3 c5 (bytesOf (piecesV k0 ls ts)) ⟨#[44]⟩ wr hst (by omega) (by rw [bytesOf_sum]; have := HPS.out; omega) (by decide))
      have HC : Hid (joinTo (bytesOf (piecesV k0 ls ts)) ⟨#[44]⟩ (bytesOf (piecesV k0 ls ts)).length = commas (piecesV k0 ls ts)) := Lib.hid (by
        rw [bytesOf_len, join_commas _ _ (Nat.le_refl _), List.take_of_length_le (Nat.le_refl _)])
      have HST := Lib.hid hst
      have HPN := Lib.hid hpn
      clear hown hst p1 ha0 hl0 hpn
      have hpn' : (bytesOf (piecesV k0 ls ts)).length = ts.length := HPN.out
      rcases HKIND.out with ⟨rfl, hm0⟩ | ⟨rfl, hm0, hn0, hn1⟩ | ⟨rfl, h2, h3⟩ | ⟨rfl, h2, h3⟩ | rfl
      · have HI := Lib.hid (specFormatInt_any n0 wr HQ1.out.1 (by have := HQ1.out.2; omega))
        clear hm0
        go_wp2_with fail
        refine HI.out.mono ?_
        rintro e w5 ⟨rfl, hb5⟩
        go_wp2
        go_ret
        exact ⟨by rw [HTX.out]; rfl, HB.out.trans (hb5.mono HB.out.size)⟩
      · have hn01 : n0 = 0 ∨ n0 = 1 := by omega
        clear hn0 hn1 hm0
        rcases hn01 with rfl | rfl
        · go_wp2
          go_ret
          exact ⟨by rw [HTX.out]; rfl, HB.out⟩
        · go_wp2
          go_ret
          exact ⟨by rw [HTX.out]; rfl, HB.out⟩
      · have hJ := HJ.out
        rw [HC.out] at hJ
        have hJl := commas_len (piecesV 3 ls ts)
        have hJp := HPS.out
        rw [bytesOf_len] at hpn'
        have HE : Hid (txtV (.mk 3 n0 nm ls ts) = 123 :: (commas (piecesV 3 ls ts) ++ [125])) := Lib.hid (by rw [HTX.out]; rfl)
        generalize commas (piecesV 3 ls ts) = J at *
        have hj1 : ¬ 9223372036854775807 < 1 + J.length := by omega
        have hj2 : ¬ 9223372036854775807 < 1 + J.length + 1 := by omega
        have HJ2 := Lib.hid hJ
        clear h2 h3 hJ hJl hJp hpn'
        go_wp2_with fail
        refine HJ2.out.mono ?_
        rintro e w5 ⟨rfl, hb5⟩
        go_wp2
        go_ret
        exact ⟨by rw [HE.out, byte3]; rfl, HB.out.trans (hb5.mono HB.out.size)⟩
      · have h0 : 0 < (bytesOf (piecesV 4 ls ts)).length := by rw [HPN.out]; omega
        obtain ⟨b, o, rfl, hbl, hcl⟩ := HST.out 0 h0
        have h0I : (0 : Int) < ((bytesOf (piecesV 4 ls ts)).length : Int) := by omega
        have h00 : 0 < (txtVs ts).length := by rw [txtVs_map, List.length_map]; omega
        have e0 : (bytesOf (piecesV 4 ls ts))[0] = ⟨((txtVs ts).headD []).toArray⟩ := by
          obtain ⟨a, r, hT⟩ : ∃ a r, txtVs ts = a :: r := by
            cases hT : txtVs ts with
            | nil => rw [hT] at h00; simp at h00
            | cons a r => exact ⟨a, r, rfl⟩
          simp only [bytesOf, piecesV, if_neg (show ¬ (4 : Int) = 3 by decide), List.getElem_map, hT]
          rfl
        rw [Nat.add_zero, e0] at hcl
        have HE : Hid (txtV (.mk 4 n0 nm ls ts) = 60 :: (nm.data.toList ++ 32 :: ((txtVs ts).headD [] ++ [62]))) := Lib.hid (by rw [HTX.out]; rfl)
        have hTl : ((txtVs ts).headD []).length ≤ sumLens (txtVs ts) := by
          cases txtVs ts with
          | nil => simp
          | cons a r => simp [sumLens]
        have hTp : sumLens (txtVs ts) ≤ 26000 := by have := HPS.out; unfold piecesV at this; rw [if_neg (by decide)] at this; exact this
        generalize (txtVs ts).headD [] = T at *
        have hnz := HNM.out rfl
        have hj0 : ¬ 9223372036854775807 < 1 + nm.size := by omega
        have hj1 : ¬ 9223372036854775807 < 1 + nm.size + 1 := by omega
        have hj2 : ¬ 9223372036854775807 < 1 + nm.size + 1 + T.length := by omega
        have hj3 : ¬ 9223372036854775807 < 1 + nm.size + 1 + T.length + 1 := by omega
        clear h2 h3 hTl hTp e0 h00 hnz
        go_wp2
        go_quiet (fail)
        go_wp2
        go_ret
        exact ⟨by rw [HE.out, byte5]; rfl, ⟨HB.out.os, HB.out.tape, HB.out.output, HB.out.size, HB.out.block⟩⟩
      · have hJ := HJ.out
        rw [HC.out] at hJ
        have hJl := commas_len (piecesV 5 ls ts)
        have hJp := HPS.out
        rw [bytesOf_len] at hpn'
        have HE : Hid (txtV (.mk 5 n0 nm ls ts) = 91 :: (commas (piecesV 5 ls ts) ++ [93])) := Lib.hid (by rw [HTX.out]; rfl)
        generalize commas (piecesV 5 ls ts) = J at *
        have hj1 : ¬ 9223372036854775807 < 1 + J.length := by omega
        have hj2 : ¬ 9223372036854775807 < 1 + J.length + 1 := by omega
        have HJ2 := Lib.hid hJ
        clear hJ hJl hJp hpn'
        go_wp2_with fail
        refine HJ2.out.mono ?_
        rintro e w5 ⟨rfl, hb5⟩
        go_wp2
        go_ret
        exact ⟨by rw [HE.out, byte3]; rfl, HB.out.trans (hb5.mono HB.out.size)⟩

theorem specTextV_any (t : Va) : TextVOne 67 t := by
  induction t using Va.ind with
  | h k n nm ls ts ih => exact specTextV_of k n nm ls ts ih

set_option maxHeartbeats 1000000 in
theorem specFormatV_any (t : Va) (v : Value) (w : World) (hv : VaAt w w.heap.size v t) (hsz : szVa t ≤ 1048576) (hq : numsB t = true) : Calls Tryd.prog 27 #[v] w (StrIs (formatVB t) w) := by
  have HX : valueB t = true → Hid (∀ W, Below w.heap.size w W → Calls Tryd.prog 67 #[v] W (StrIs ⟨(txtV t).toArray⟩ W)) := fun h => Lib.hid fun W hb => by
    unfold valueB at h
    simp only [Bool.and_eq_true, decide_eq_true_eq] at h
    exact specTextV_any t v W (hv.up hb) h.2 hq (by omega)
  have hv0 := hv
  obtain ⟨L, lc, A, ac, rfl, _⟩ := hv.open
  obtain ⟨hb0, p0, hs0⟩ := boxes1 w 25 #[.int .i64 t.kind, .int .i64 t.num, .string t.name, .slice L t.labels.length lc, .slice A t.args.length ac]
  have HV := Lib.hid (specIsValue_any t _ _ (hv0.up hb0) hsz)
  have p00 := Lib.hid p0
  have c0 : (w.alloc (.cells #[.int .i64 t.kind, .int .i64 t.num, .string t.name, .slice L t.labels.length lc, .slice A t.args.length ac] 25)).cell? ⟨w.heap.size, 0, none⟩ = some (.int .i64 t.kind) := p0.cell 0
  have c1 : (w.alloc (.cells #[.int .i64 t.kind, .int .i64 t.num, .string t.name, .slice L t.labels.length lc, .slice A t.args.length ac] 25)).cell? ⟨w.heap.size, 1, none⟩ = some (.int .i64 t.num) := p0.cell 1
  have c2 : (w.alloc (.cells #[.int .i64 t.kind, .int .i64 t.num, .string t.name, .slice L t.labels.length lc, .slice A t.args.length ac] 25)).cell? ⟨w.heap.size, 2, none⟩ = some (.string t.name) := p0.cell 2
  have c3 : (w.alloc (.cells #[.int .i64 t.kind, .int .i64 t.num, .string t.name, .slice L t.labels.length lc, .slice A t.args.length ac] 25)).cell? ⟨w.heap.size, 3, none⟩ = some (.slice L t.labels.length lc) := p0.cell 3
  have c4 : (w.alloc (.cells #[.int .i64 t.kind, .int .i64 t.num, .string t.name, .slice L t.labels.length lc, .slice A t.args.length ac] 25)).cell? ⟨w.heap.size, 4, none⟩ = some (.slice A t.args.length ac) := p0.cell 4
  clear hv hv0 hs0
  cases hvb : valueB t
  · rw [hvb] at HV
    have HE : Hid (formatVB t = ⟨#[]⟩) := Lib.hid (by unfold formatVB; rw [hvb]; rfl)
    clear HX hvb
    go_enter Tryd.func27, Tryd.ntmps27
    go_wp2_with fail
    generalize w.alloc (.cells #[.int .i64 t.kind, .int .i64 t.num, .string t.name, .slice L t.labels.length lc, .slice A t.args.length ac] 25) = w0 at *
    refine HV.out.mono ?_
    rintro e w1 ⟨rfl, hb1⟩
    go_wp2
    go_ret
    exact ⟨by rw [HE.out]; rfl, hb0.trans (hb1.mono hb0.size)⟩
  · rw [hvb] at HV
    have HE : Hid (formatVB t = ⟨(txtV t).toArray⟩) := Lib.hid (by unfold formatVB; rw [hvb]; rfl)
    have HX2 := HX hvb
    clear HX hvb
    go_enter Tryd.func27, Tryd.ntmps27
    go_wp2_with fail
    generalize w.alloc (.cells #[.int .i64 t.kind, .int .i64 t.num, .string t.name, .slice L t.labels.length lc, .slice A t.args.length ac] 25) = w0 at *
    refine HV.out.mono ?_
    rintro e w1 ⟨rfl, hb1⟩
    have hb01 := hb0.trans (hb1.mono hb0.size)
    have HX3 := Lib.hid (HX2.out w1 hb01)
    have p1 := p0.below hb1 p0.lt
    have d0 : w1.cell? ⟨w.heap.size, 0, none⟩ = some (.int .i64 t.kind) := p1.cell 0
    have d1 : w1.cell? ⟨w.heap.size, 1, none⟩ = some (.int .i64 t.num) := p1.cell 1
    have d2 : w1.cell? ⟨w.heap.size, 2, none⟩ = some (.string t.name) := p1.cell 2
    have d3 : w1.cell? ⟨w.heap.size, 3, none⟩ = some (.slice L t.labels.length lc) := p1.cell 3
    have d4 : w1.cell? ⟨w.heap.size, 4, none⟩ = some (.slice A t.args.length ac) := p1.cell 4
    clear p1 c0 c1 c2 c3 c4
    go_wp2_with fail
    refine HX3.out.mono ?_
    rintro e w2 ⟨rfl, hb2⟩
    go_wp2
    go_ret
    exact ⟨by rw [HE.out]; rfl, hb01.trans (hb2.mono hb01.size)⟩

end Go.Proofs.YtceclhndagoddaaDoor
end

section
namespace Go.Proofs.YtceclhndagoddaaDoor
open Go.RowKit
attribute [local go_sem ↓] Go.wp_at_zero Go.wp_at_succ

abbrev zeroVa : Va := .mk 0 0 ⟨#[]⟩ [] []
/-- The value of the text, or nothing, is handed back. -/
def ParsePostV (s : ByteArray) (w : World) (e : Ending) (w' : World) : Prop :=
  ∃ v, e = .returned (.tuple #[v, .bool (parseVB s).isSome]) ∧ VaIn w' (Span w.heap.size w'.heap.size) v ((parseVB s).getD zeroVa) ∧ Below w.heap.size w w'

theorem rest_zero' (s : ByteArray) : restOf s 0 = s.data.toList := by simp [restOf]
theorem below_reader' {w w1 W : World} {p : Nat} (hb : Below w.heap.size w w1) (hg : w1.grownBy W (some p)) (hp : w.heap.size ≤ p) : Below w.heap.size w W :=
  ⟨hg.os.trans hb.os, hg.tape.trans hb.tape, hg.output.trans hb.output, Nat.le_trans hb.size hg.size, fun q hq => (hg.block q (Nat.lt_of_lt_of_le hq hb.size) (fun e => by injection e with e; omega)).trans (hb.block q hq)⟩
theorem vaIn_set5' {w W : World} {lo hi : Nat} {v : Value} {t : Va} (h : VaIn W (Span lo hi) v t) (hlo : w.heap.size + 1 ≤ lo) (hhi : hi ≤ W.heap.size) (a b c d e : Value) : VaIn (((((W.setCell ⟨w.heap.size, 0, none⟩ a).setCell ⟨w.heap.size, 1, none⟩ b).setCell ⟨w.heap.size, 2, none⟩ c).setCell ⟨w.heap.size, 3, none⟩ d).setCell ⟨w.heap.size, 4, none⟩ e) (Span w.heap.size (((((W.setCell ⟨w.heap.size, 0, none⟩ a).setCell ⟨w.heap.size, 1, none⟩ b).setCell ⟨w.heap.size, 2, none⟩ c).setCell ⟨w.heap.size, 3, none⟩ d).setCell ⟨w.heap.size, 4, none⟩ e).heap.size) v t :=
  (h.keep fun q hq _ => set5_keep _ _ _ _ _ _ _ _ (by have := hq.1; omega)).wide fun q hq => ⟨by have := hq.1; omega, by have := hq.2; simp [World.setCell]; omega⟩
theorem vzero_in (w : World) (S : Nat → Prop) : VaIn w S (.agg #[.int .i64 0, .int .i64 0, .string ⟨#[]⟩, .slice none 0 0, .slice none 0 0]) zeroVa := by
  have h := (OwnVa.leaf w 0 0 0 ⟨#[]⟩ (by decide)).owned
  exact .mk 0 1 (fun _ => .nilFunc) (fun _ _ => False) (by decide) (Nat.zero_le _) (fun i h => absurd h (by simp)) (Nat.zero_le _) (.inl rfl) (.inl rfl) (by decide) (fun i h => absurd h (by simp)) (fun i _ h => absurd h (by simp)) (fun i h => absurd h (by simp))
theorem rdVaS_sound8 {s : ByteArray} {t : Va} {r : List UInt8} (h : rdVaS 300 (restOf s 0) = some (t, r)) : restOf s 0 = txtV t ++ r ∧ szVa t + 1 ≤ (txtV t).length ∧ smallB t = true :=
  ⟨rdVa_sound 300 _ _ _ (rdVaS_to _ _ _ _ h), rdVa_sz 300 _ _ _ (rdVaS_to _ _ _ _ h), rdVa_small 300 _ _ _ (rdVaS_to _ _ _ _ h)⟩

set_option maxHeartbeats 4000000 in
set_option maxRecDepth 100000 in
theorem specParseV_any (s : ByteArray) (w : World) (hs : s.size ≤ 1048576) : Calls Tryd.prog 5 #[.string s] w (ParsePostV s w) := by
  obtain ⟨hb0, r0, q0, hs0⟩ := boxes2 w 25 49 #[.int .i64 0, .int .i64 0, .string ⟨#[]⟩, .slice none 0 0, .slice none 0 0] #[.string s, .int .i64 0, .bool false]
  have HT : V.TypeOne 300 1 := V.typeOne 300 (Nat.le_refl _)
  have hR : RdAt ((w.alloc (.cells #[.int .i64 0, .int .i64 0, .string ⟨#[]⟩, .slice none 0 0, .slice none 0 0] 25)).alloc (.cells #[.string s, .int .i64 0, .bool false] 49)) (w.heap.size + 1) s 0 false := ⟨q0, Nat.zero_le _⟩
  have HQ := Lib.hid hR
  have HRZ := Lib.hid r0
  have HSZ := Lib.hid hs0
  cases hrd : rdVaS 300 (restOf s 0) with
  | none =>
    have HNO : Hid (parseVB s = none) := Lib.hid (by
      rw [parseVB_S]
      rw [← rest_zero', hrd])
    have HC := Lib.hid (HT.bad _ _ 0 s false hR hs (.inr hrd))
    clear hR HT r0 q0 hs0 hrd
    go_enter Tryd.func5, Tryd.ntmps5
    go_wp2_with fail
    generalize (w.alloc (.cells #[.int .i64 0, .int .i64 0, .string ⟨#[]⟩, .slice none 0 0, .slice none 0 0] 25)).alloc (.cells #[.string s, .int .i64 0, .bool false] 49) = w1 at *
    refine HC.out.mono ?_
    rintro e w2 ⟨x, y, nm, L, n, lc, A, m, ac, j, rfl, hr2, hg2⟩
    have hb2 := below_reader' hb0 hg2 (by omega)
    have hzl := HRZ.out.lt
    have hz2 : V.ZeroBox w2 w.heap.size := (hg2.block w.heap.size hzl (fun e => by injection e with e; omega)).trans HRZ.out
    have hb3 := (Below.refl w2.heap.size w2).alloc (Nat.le_refl _) (.cells #[.int .i64 x, .int .i64 y, .string nm, .slice L n lc, .slice A m ac] 25)
    have hr3 := hr2.below hb3 hr2.lt
    have hz3 := hz2.below hb3 hz2.lt
    have hB3 := hb2.trans (hb3.mono hb2.size)
    clear hr2 hz2 hb3 hb2 hg2
    go_upto_region 3 with fail
    generalize w2.alloc (.cells #[.int .i64 x, .int .i64 y, .string nm, .slice L n lc, .slice A m ac] 25) = w3 at *
    have b2 : w3.cell? ⟨w.heap.size + 1, 2, none⟩ = some (.bool true) := Whole1.cell hr3.1 2
    have d0 : w3.cell? ⟨w.heap.size, 0, none⟩ = some (.int .i64 0) := (hz3).cell 0
    have d1 : w3.cell? ⟨w.heap.size, 1, none⟩ = some (.int .i64 0) := (hz3).cell 1
    have d2 : w3.cell? ⟨w.heap.size, 2, none⟩ = some (.string ⟨#[]⟩) := (hz3).cell 2
    have d3 : w3.cell? ⟨w.heap.size, 3, none⟩ = some (.slice none 0 0) := (hz3).cell 3
    have d4 : w3.cell? ⟨w.heap.size, 4, none⟩ = some (.slice none 0 0) := (hz3).cell 4
    have f0 : w3.frozen? ⟨w.heap.size, 0, none⟩ = false := (hz3).free 0
    have f1 : w3.frozen? ⟨w.heap.size, 1, none⟩ = false := (hz3).free 1
    have f2 : w3.frozen? ⟨w.heap.size, 2, none⟩ = false := (hz3).free 2
    have f3 : w3.frozen? ⟨w.heap.size, 3, none⟩ = false := (hz3).free 3
    have f4 : w3.frozen? ⟨w.heap.size, 4, none⟩ = false := (hz3).free 4
    have HB3 := Lib.hid hB3
    clear hr3 hz3 hB3
    go_wp2
    exact bodyPost_ret (v := .tuple #[.agg #[.int .i64 0, .int .i64 0, .string ⟨#[]⟩, .slice none 0 0, .slice none 0 0], .bool false]) (by simp [results, Tryd.results5, go_sem, d0, d1, d2, d3, d4]) rfl ⟨_, by rw [HNO.out]; rfl, by rw [HNO.out]; exact vzero_in _ _, ((((HB3.out.setCell (Nat.le_refl _) _).setCell (Nat.le_refl _) _).setCell (Nat.le_refl _) _).setCell (Nat.le_refl _) _).setCell (Nat.le_refl _) _⟩
  | some tr =>
    obtain ⟨t, r⟩ := tr
    have hsd := rdVaS_sound8 hrd
    rw [rest_zero'] at hsd
    have hlen : (txtV t).length ≤ s.size := by
      have h1 := congrArg List.length hsd.1
      rw [List.length_append] at h1
      have h2 : s.data.toList.length = s.size := by simp
      omega
    have HSD := Lib.hid hsd.1
    have hszt : szVa t ≤ 1048576 := by have := hsd.2.1; omega
    have hnum := smallB_nums t hsd.2.2
    have hpos : 1 ≤ s.size := by have := hsd.2.1; omega
    have HRD := Lib.hid hrd
    have HC := Lib.hid (HT.good _ _ 0 s t r hR hs hrd)
    clear hR HT r0 q0 hs0 hrd hsd
    go_enter Tryd.func5, Tryd.ntmps5
    go_wp2_with fail
    generalize (w.alloc (.cells #[.int .i64 0, .int .i64 0, .string ⟨#[]⟩, .slice none 0 0, .slice none 0 0] 25)).alloc (.cells #[.string s, .int .i64 0, .bool false] 49) = w1 at *
    refine HC.out.mono ?_
    rintro e w2 ⟨v, j, rfl, hrr, hr2, hO2, hg2⟩
    have hI2 := hO2.owned
    obtain ⟨L, lc, A, ac, rfl⟩ := hO2.open
    have hb2 := below_reader' hb0 hg2 (by omega)
    have hzl := HRZ.out.lt
    have hs1 := hb0.size
    have hz2 : V.ZeroBox w2 w.heap.size := (hg2.block w.heap.size hzl (fun e => by injection e with e; omega)).trans HRZ.out
    obtain ⟨hb3, t3, hs3⟩ := boxes1 w2 25 #[.int .i64 t.kind, .int .i64 t.num, .string t.name, .slice L t.labels.length lc, .slice A t.args.length ac]
    have hr3 := hr2.below hb3 hr2.lt
    have hz3 := hz2.below hb3 hz2.lt
    have hB3 := hb2.trans (hb3.mono hb2.size)
    have hI3 := hI2.keep (w' := w2.alloc (.cells #[.int .i64 t.kind, .int .i64 t.num, .string t.name, .slice L t.labels.length lc, .slice A t.args.length ac] 25)) fun b hb hl => hb3.block b hl
    have hg2s := hg2.size
    clear hr2 hz2 hb2 hg2 hI2 hO2
    go_upto_region 3 with fail
    have HS3 := Lib.hid hs3
    clear hs3
    generalize w2.alloc (.cells #[.int .i64 t.kind, .int .i64 t.num, .string t.name, .slice L t.labels.length lc, .slice A t.args.length ac] 25) = w3 at *
    have hjl := hr3.2
    have b1 : w3.cell? ⟨w.heap.size + 1, 1, none⟩ = some (.int .i64 (j : Int)) := Whole1.cell hr3.1 1
    have b2 : w3.cell? ⟨w.heap.size + 1, 2, none⟩ = some (.bool false) := Whole1.cell hr3.1 2
    have e0 : w3.cell? ⟨w2.heap.size, 0, none⟩ = some (.int .i64 t.kind) := t3.cell 0
    have e1 : w3.cell? ⟨w2.heap.size, 1, none⟩ = some (.int .i64 t.num) := t3.cell 1
    have e2 : w3.cell? ⟨w2.heap.size, 2, none⟩ = some (.string t.name) := t3.cell 2
    have e3 : w3.cell? ⟨w2.heap.size, 3, none⟩ = some (.slice L t.labels.length lc) := t3.cell 3
    have e4 : w3.cell? ⟨w2.heap.size, 4, none⟩ = some (.slice A t.args.length ac) := t3.cell 4
    have HB3 := Lib.hid hB3
    have HT3 := Lib.hid t3
    have HZ3 := Lib.hid hz3
    have HI3 := Lib.hid hI3
    by_cases hj : j = s.size
    · subst hj
      have hr0 : r = [] := by rw [hrr]; exact restOf_end s _ (Nat.le_refl _)
      subst hr0
      have hst : s = ⟨(txtV t).toArray⟩ := by
        apply ByteArray.ext
        apply Array.toList_inj.1
        have := HSD.out
        rw [List.append_nil] at this
        rw [this]
      have HST := Lib.hid hst
      have HF := Lib.hid (specFormatV_any t _ w3 hI3.here hszt hnum)
      have hneq : ((s.size : Int) == (s.size : Int)) = true := by simp
      clear hB3 hr3 hz3 hI3 hst hrr t3
      go_wp2_with fail
      refine HF.out.mono ?_
      rintro e w4 ⟨rfl, hb4⟩
      have HB4 := Lib.hid (HB3.out.trans (hb4.mono HB3.out.size))
      have hz4 := HZ3.out.below hb4 HZ3.out.lt
      have HI4 := Lib.hid (HI3.out.keep fun b hb hl => hb4.block b hl)
      have hs4 := hb4.size
      have t4 := HT3.out.below hb4 HT3.out.lt
      have q0 : w4.cell? ⟨w2.heap.size, 0, none⟩ = some (.int .i64 t.kind) := t4.cell 0
      have q1 : w4.cell? ⟨w2.heap.size, 1, none⟩ = some (.int .i64 t.num) := t4.cell 1
      have q2 : w4.cell? ⟨w2.heap.size, 2, none⟩ = some (.string t.name) := t4.cell 2
      have q3 : w4.cell? ⟨w2.heap.size, 3, none⟩ = some (.slice L t.labels.length lc) := t4.cell 3
      have q4 : w4.cell? ⟨w2.heap.size, 4, none⟩ = some (.slice A t.args.length ac) := t4.cell 4
      have d0 : w4.cell? ⟨w.heap.size, 0, none⟩ = some (.int .i64 0) := (hz4).cell 0
      have d1 : w4.cell? ⟨w.heap.size, 1, none⟩ = some (.int .i64 0) := (hz4).cell 1
      have d2 : w4.cell? ⟨w.heap.size, 2, none⟩ = some (.string ⟨#[]⟩) := (hz4).cell 2
      have d3 : w4.cell? ⟨w.heap.size, 3, none⟩ = some (.slice none 0 0) := (hz4).cell 3
      have d4 : w4.cell? ⟨w.heap.size, 4, none⟩ = some (.slice none 0 0) := (hz4).cell 4
      have f0 : w4.frozen? ⟨w.heap.size, 0, none⟩ = false := (hz4).free 0
      have f1 : w4.frozen? ⟨w.heap.size, 1, none⟩ = false := (hz4).free 1
      have f2 : w4.frozen? ⟨w.heap.size, 2, none⟩ = false := (hz4).free 2
      have f3 : w4.frozen? ⟨w.heap.size, 3, none⟩ = false := (hz4).free 3
      have f4 : w4.frozen? ⟨w.heap.size, 4, none⟩ = false := (hz4).free 4
      have hs3 := HS3.out
      cases hvb : valueB t
      · have hfb : formatVB t = ⟨#[]⟩ := by unfold formatVB; rw [hvb]; rfl
        have HNO : Hid (parseVB s = none) := Lib.hid (by
          rw [parseVB_S]
          rw [← rest_zero', HRD.out]
          simp [hvb])
        have hne : ((formatVB t).toList == s.toList) = false := by
          rw [hfb, beq_eq_false_iff_ne, ByteArray.toList_eq, ByteArray.toList_eq]
          intro e
          have h1 := congrArg List.length e
          have h2 : s.data.toList.length = s.size := by simp
          rw [h2] at h1
          simp at h1
          omega
        clear hfb hvb hz4 t4 e0 e1 e2 e3 e4 b1 b2
        generalize formatVB t = fb at *
        go_wp2
        exact bodyPost_ret (v := .tuple #[.agg #[.int .i64 0, .int .i64 0, .string ⟨#[]⟩, .slice none 0 0, .slice none 0 0], .bool false]) (by simp [results, Tryd.results5, go_sem, d0, d1, d2, d3, d4]) rfl ⟨_, by rw [HNO.out]; rfl, by rw [HNO.out]; exact vzero_in _ _, ((((HB4.out.setCell (Nat.le_refl _) _).setCell (Nat.le_refl _) _).setCell (Nat.le_refl _) _).setCell (Nat.le_refl _) _).setCell (Nat.le_refl _) _⟩
      · have hfb : formatVB t = s := by unfold formatVB; rw [hvb, HST.out]; rfl
        have HYES : Hid (parseVB s = some t) := Lib.hid (by
          rw [parseVB_S]
          rw [← rest_zero', HRD.out]
          simp [hvb])
        have hne : ((formatVB t).toList == s.toList) = true := by rw [hfb]; simp
        clear hvb hz4 t4 e0 e1 e2 e3 e4 b1 b2
        generalize formatVB t = fb at *
        go_wp2
        exact bodyPost_ret (v := .tuple #[.agg #[.int .i64 t.kind, .int .i64 t.num, .string t.name, .slice L t.labels.length lc, .slice A t.args.length ac], .bool true]) (by simp [results, Tryd.results5, go_sem, d0, d1, d2, d3, d4]) rfl ⟨_, by rw [HYES.out]; rfl, by rw [HYES.out]; exact vaIn_set5' HI4.out (by omega) (by omega) _ _ _ _ _, ((((HB4.out.setCell (Nat.le_refl _) _).setCell (Nat.le_refl _) _).setCell (Nat.le_refl _) _).setCell (Nat.le_refl _) _).setCell (Nat.le_refl _) _⟩
    · have hneq : ((j : Int) == (s.size : Int)) = false := by rw [beq_eq_false_iff_ne]; omega
      have HNO : Hid (parseVB s = none) := Lib.hid (by
        have hne : r ≠ [] := by
          intro e
          have := congrArg List.length (hrr.symm.trans e)
          rw [restOf_len] at this
          simp at this
          omega
        rw [parseVB_S]
        rw [← rest_zero', HRD.out]
        cases r with
        | nil => exact absurd rfl hne
        | cons a q => rfl)
      have d0 : w3.cell? ⟨w.heap.size, 0, none⟩ = some (.int .i64 0) := (hz3).cell 0
      have d1 : w3.cell? ⟨w.heap.size, 1, none⟩ = some (.int .i64 0) := (hz3).cell 1
      have d2 : w3.cell? ⟨w.heap.size, 2, none⟩ = some (.string ⟨#[]⟩) := (hz3).cell 2
      have d3 : w3.cell? ⟨w.heap.size, 3, none⟩ = some (.slice none 0 0) := (hz3).cell 3
      have d4 : w3.cell? ⟨w.heap.size, 4, none⟩ = some (.slice none 0 0) := (hz3).cell 4
      have f0 : w3.frozen? ⟨w.heap.size, 0, none⟩ = false := (hz3).free 0
      have f1 : w3.frozen? ⟨w.heap.size, 1, none⟩ = false := (hz3).free 1
      have f2 : w3.frozen? ⟨w.heap.size, 2, none⟩ = false := (hz3).free 2
      have f3 : w3.frozen? ⟨w.heap.size, 3, none⟩ = false := (hz3).free 3
      have f4 : w3.frozen? ⟨w.heap.size, 4, none⟩ = false := (hz3).free 4
      clear hB3 hr3 hz3 hI3 t3
      go_wp2
      exact bodyPost_ret (v := .tuple #[.agg #[.int .i64 0, .int .i64 0, .string ⟨#[]⟩, .slice none 0 0, .slice none 0 0], .bool false]) (by simp [results, Tryd.results5, go_sem, d0, d1, d2, d3, d4]) rfl ⟨_, by rw [HNO.out]; rfl, by rw [HNO.out]; exact vzero_in _ _, ((((HB3.out.setCell (Nat.le_refl _) _).setCell (Nat.le_refl _) _).setCell (Nat.le_refl _) _).setCell (Nat.le_refl _) _).setCell (Nat.le_refl _) _⟩

end Go.Proofs.YtceclhndagoddaaDoor
end

section
namespace Go.Proofs
open Go.Shelf
def Tryd.laysClone_ren : Go.Shelf.Ren := ⟨fun | 316 => 110 | n => n, fun | 9 => 9 | 3 => 3 | 4 => 4 | 37 => 31 | 0 => 0 | 127 => 157 | 5 => 5 | n => n, fun | n => n⟩
theorem Tryd.laysClone : Go.Proofs.LaysM.n316 Tryd.prog Tryd.laysClone_ren := {
  mixed := by kernel_rfl
  f316 := Tryd.func110.trans (congrArg some (by kernel_rfl))
  t0 := Tryd.underlying0
  a0 := Tryd.isAgg0
  z0 := Tryd.sizeOf0
  v0 := Tryd.zeroValue0
  t3 := Tryd.underlying3
  a3 := Tryd.isAgg3
  z3 := Tryd.sizeOf3
  v3 := Tryd.zeroValue3
  t4 := Tryd.underlying4
  a4 := Tryd.isAgg4
  z4 := Tryd.sizeOf4
  v4 := Tryd.zeroValue4
  t9 := Tryd.underlying9
  a9 := Tryd.isAgg9
  z9 := Tryd.sizeOf9
  v9 := Tryd.zeroValue9
  t37 := Tryd.underlying31
  a37 := Tryd.isAgg31
  z37 := Tryd.sizeOf31
  v37 := Tryd.zeroValue31
  t127 := Tryd.underlying157
  a127 := Tryd.isAgg157
  z127 := Tryd.sizeOf157
  v127 := Tryd.zeroValue157
  t5 := Tryd.underlying5
  a5 := Tryd.isAgg5
  z5 := Tryd.sizeOf5
  v5 := Tryd.zeroValue5
  i0 := by kernel_rfl
  i3 := by kernel_rfl
  i4 := by kernel_rfl
  i5 := by kernel_rfl
  i9 := by kernel_rfl
  i37 := by kernel_rfl
  i127 := by kernel_rfl }
end Go.Proofs

namespace Go.Proofs.YtceclhndagoddaaDoor
open Go.RowKit

set_option maxHeartbeats 1000000 in
theorem slicesIndex_any (A : Option Addr) (c B : Nat) (ss : List ByteArray) (s : ByteArray) (w : World) (hA : StrsAt w B A ss) (hn : ss.length ≤ maxLen) :
    Calls Tryd.prog 122 #[.slice A ss.length c, .string s] w fun e w' => e = .returned (.int .i64 (idxOf ss s)) ∧ w = w' := by
  unfold maxLen at hn
  go_enter Tryd.func122, Tryd.ntmps122
  go_wp2
  go_loop [8] (fun i => ∃ k : Nat, k ≤ ss.length ∧ i = .int .i64 k ∧ ∀ j, (hj : j < ss.length) → j < k → ss[j].data.toList ≠ s.data.toList) (fun i => ss.length - (intOf i).toNat)
  case atStart => exact ⟨0, Nat.zero_le _, rfl, fun j _ h => absurd h (by omega)⟩
  case round =>
    obtain ⟨k, hk, rfl, hall⟩ := hrel
    have HA := Lib.hid hall
    clear hall
    by_cases hlt : k < ss.length
    · have hltI : (k : Int) < (ss.length : Int) := by omega
      obtain ⟨b, off, rfl, _, hcell⟩ := hA k hlt
      by_cases he : ss[k].data.toList = s.data.toList
      · have hd := Lib.hid (idxOf_at ss s k hlt he HA.out)
        have hq : (s.toList == ss[k].toList) = true := by rw [beq_iff_eq, ByteArray.toList_eq, ByteArray.toList_eq]; exact he.symm
        clear he
        go_wp2
        go_ret
        exact ⟨by rw [hd.out]; rfl, rfl⟩
      · have hq : (s.toList == ss[k].toList) = false := by rw [beq_eq_false_iff_ne, ByteArray.toList_eq, ByteArray.toList_eq]; exact fun e => he e.symm
        have HE := Lib.hid he
        clear he
        go_wp2
        go_round
        case rel =>
          refine ⟨k + 1, by omega, by go_num, fun j hj h => ?_⟩
          by_cases e : j = k
          · subst e
            exact HE.out
          · exact HA.out j hj (by omega)
        case measure => simp [intOf]; omega
    · have hltI : ¬ (k : Int) < (ss.length : Int) := by omega
      have hd := Lib.hid (idxOf_none ss s (fun j hj => HA.out j hj (by omega)))
      go_wp2
      go_ret
      exact ⟨by rw [hd.out]; rfl, rfl⟩

theorem implIndexOf_any (A : Option Addr) (c B : Nat) (ss : List ByteArray) (s : ByteArray) (w : World) (hA : StrsAt w B A ss) (hn : ss.length ≤ maxLen) :
    Calls Tryd.prog 93 #[.slice A ss.length c, .string s] w fun e w' => e = .returned (.int .i64 (idxOf ss s)) ∧ w = w' := by
  have hc := Lib.hid (slicesIndex_any A c B ss s w hA hn)
  go_enter Tryd.func93, Tryd.ntmps93
  go_wp2_with fail
  refine hc.out.mono ?_
  rintro e w1 ⟨rfl, rfl⟩
  go_wp2
  go_ret
  exact ⟨rfl, rfl⟩

set_option maxHeartbeats 1000000 in
theorem implAreAscending_any (A : Option Addr) (c B : Nat) (ss : List ByteArray) (w : World) (hA : StrsAt w B A ss) (hn : ss.length < maxLen) :
    Calls Tryd.prog 135 #[.slice A ss.length c] w (BoolDrew (ascB ss) w) := by
  unfold maxLen at hn
  go_enter Tryd.func135, Tryd.ntmps135
  go_wp2
  go_loopw [3] (fun i wr => ∃ k : Nat, k ≤ ss.length + 1 ∧ 1 ≤ k ∧ i = .int .i64 k ∧ (∀ j, (hj : j < ss.length) → 1 ≤ j → j < k → lessB (ss[j - 1]'(by omega)) ss[j] = true) ∧ ∃ n, wr = w.drewN n) (fun i _ => ss.length - (intOf i).toNat)
  case atStart => exact ⟨1, by omega, by omega, rfl, fun j _ h1 h2 => absurd h2 (by omega), 0, rfl⟩
  case round =>
    obtain ⟨k, hk, hk1, rfl, hall, n, rfl⟩ := hrel
    have HA := Lib.hid hall
    clear hall
    by_cases hlt : k < ss.length
    · have hltI : (k : Int) < (ss.length : Int) := by omega
      obtain ⟨b, off, rfl, _, hcell⟩ := hA k hlt
      obtain ⟨b', off', e', _, hcell'⟩ := hA (k - 1) (by omega)
      cases e'
      cases hles : lessB (ss[k - 1]'(by omega)) ss[k]
      · have hd := Lib.hid (ascB_no ss k hk1 hlt hles)
        have hq : (!Op.bytesLess (ss[k - 1]'(by omega)).toList ss[k].toList) = true := by
          rw [ByteArray.toList_eq, ByteArray.toList_eq, show Op.bytesLess _ _ = false from hles]
          rfl
        clear hles
        go_wp2
        go_quiet (fail)
        go_wp2
        go_ret
        exact ⟨by rw [hd.out]; rfl, _, World.drewN_drewN _ _ _⟩
      · have hq : (!Op.bytesLess (ss[k - 1]'(by omega)).toList ss[k].toList) = false := by
          rw [ByteArray.toList_eq, ByteArray.toList_eq, show Op.bytesLess _ _ = true from hles]
          rfl
        have HE := Lib.hid hles
        clear hles
        go_wp2
        go_quiet (fail)
        go_wp2
        go_roundw
        case rel =>
          refine ⟨k + 1, by omega, by omega, by go_num, fun j hj h1 h2 => ?_, _, rfl⟩
          by_cases e : j = k
          · subst e
            exact HE.out
          · exact HA.out j hj h1 (by omega)
        case measure => simp [intOf]; omega
    · have hltI : ¬ (k : Int) < (ss.length : Int) := by omega
      have hd := Lib.hid (ascB_yes ss (fun j hj h1 => HA.out j hj (by omega) (by omega)))
      go_wp2
      go_ret
      exact ⟨by rw [hd.out]; rfl, n, rfl⟩

theorem clone_any (s : ByteArray) (w : World) (hs : s.size ≤ 1048576) :
    Calls Tryd.prog 72 #[.string s] w fun e w' => e = .returned (.string s) ∧ Below w.heap.size w w' := by
  have hc := Lib.hid (Any.stringslite_Clone Tryd.laysClone s w (by omega))
  go_enter Tryd.func72, Tryd.ntmps72
  go_wp2_with fail
  refine hc.out.mono ?_
  rintro e w1 ⟨rfl, hb1⟩
  go_wp2
  go_ret
  exact ⟨rfl, hb1⟩

end Go.Proofs.YtceclhndagoddaaDoor

namespace Go.Proofs.YtceclhndagoddaaDoor
open Go.RowKit

theorem letter_yes (r : Int) (w : World) (h1 : 97 ≤ r) (h2 : r ≤ 122) :
    Calls Tryd.prog 130 #[.int .i32 r] w fun e w' => e = .returned (.bool true) ∧ w = w' := by
  go_enter Tryd.func130, Tryd.ntmps130
  go_wp2
  go_ret
  exact ⟨rfl, rfl⟩
theorem letter_no (r : Int) (w : World) (h : r < 97 ∨ 122 < r) :
    Calls Tryd.prog 130 #[.int .i32 r] w fun e w' => e = .returned (.bool false) ∧ w = w' := by
  by_cases h1 : 97 ≤ r
  · have h2 : ¬ r ≤ 122 := by omega
    clear h
    go_enter Tryd.func130, Tryd.ntmps130
    go_wp2
    go_ret
    exact ⟨rfl, rfl⟩
  · clear h
    go_enter Tryd.func130, Tryd.ntmps130
    go_wp2
    go_ret
    exact ⟨rfl, rfl⟩
theorem digit_yes (r : Int) (w : World) (h1 : 48 ≤ r) (h2 : r ≤ 57) :
    Calls Tryd.prog 117 #[.int .i32 r] w fun e w' => e = .returned (.bool true) ∧ w = w' := by
  go_enter Tryd.func117, Tryd.ntmps117
  go_wp2
  go_ret
  exact ⟨rfl, rfl⟩
theorem digit_no (r : Int) (w : World) (h : r < 48 ∨ 57 < r) :
    Calls Tryd.prog 117 #[.int .i32 r] w fun e w' => e = .returned (.bool false) ∧ w = w' := by
  by_cases h1 : 48 ≤ r
  · have h2 : ¬ r ≤ 57 := by omega
    clear h
    go_enter Tryd.func117, Tryd.ntmps117
    go_wp2
    go_ret
    exact ⟨rfl, rfl⟩
  · clear h
    go_enter Tryd.func117, Tryd.ntmps117
    go_wp2
    go_ret
    exact ⟨rfl, rfl⟩

theorem decode_cases (s : ByteArray) (k : Nat) (h : k < s.size) : ∃ r wd : Nat, Utf8.decode s k = (r, wd) ∧ 1 ≤ wd ∧ (r < 128 → wd = 1 ∧ r = s[k].toNat) ∧ (128 ≤ r → 128 ≤ s[k].toNat) ∧ r ≤ 2147483647 := by
  have hle := decode_le s k
  by_cases ha : s[k].toNat < 128
  · have e := decode_ascii s k h ha
    refine ⟨_, _, e, Nat.le_refl _, fun _ => ⟨rfl, rfl⟩, fun h => by omega, by omega⟩
  · have h2 := decode_high s k h (by omega)
    rcases hd : Utf8.decode s k with ⟨r, wd⟩
    rw [hd] at h2 hle
    obtain ⟨h3, h4⟩ := h2
    exact ⟨_, _, rfl, h4, fun h => by simp at h3; omega, fun _ => by omega, hle⟩

theorem nameAt_no (k : Nat) (c : UInt8) (h1 : ¬ (97 ≤ c.toNat ∧ c.toNat ≤ 122)) (h2 : ¬ 0 < k ∨ ¬ (48 ≤ c.toNat ∧ c.toNat ≤ 57)) : nameAt k c = false := by
  unfold nameAt
  rw [Bool.or_eq_false_iff]
  constructor
  · rw [Bool.and_eq_false_iff]
    simp
    omega
  · rw [Bool.and_eq_false_iff, Bool.and_eq_false_iff]
    simp
    omega
theorem isNameB_long (s : ByteArray) (h : 4 < s.size) : isNameB s = false := by
  unfold isNameB
  simp [show ¬ s.size ≤ 4 by omega]

/-- A bool is handed back; what was there stands. -/
def BoolBelow (b : Bool) (w : World) (e : Ending) (w' : World) : Prop := e = .returned (.bool b) ∧ Below w.heap.size w w'

theorem iter_below (w : World) (s : ByteArray) (k : Nat) : Below w.heap.size w (w.iter s k) := (Below.refl _ _).alloc (Nat.le_refl _) _

set_option maxHeartbeats 1000000 in
theorem implIsName_any (s : ByteArray) (w : World) (hs : s.size ≤ maxLen) :
    Calls Tryd.prog 134 #[.string s] w (BoolBelow (isNameB s) w) := by
  unfold maxLen at hs
  go_enter Tryd.func134, Tryd.ntmps134
  go_wp2
  go_loopw [2] (fun r2 w' => ∃ k : Nat, r2 = .bool false ∧ w' = w.iter s k ∧ k ≤ s.size ∧ k ≤ 4 ∧ ∀ j, j < k → nameAt j (s.data.getD j 0) = true) (fun _ w' => s.size - w'.iterPos w.heap.size)
  case atStart => exact ⟨0, rfl, rfl, Nat.zero_le _, Nat.zero_le _, fun j h => absurd h (by omega)⟩
  case round =>
    obtain ⟨k, rfl, rfl, hk, hk4, hall⟩ := hrel
    have HA := Lib.hid hall
    clear hall
    by_cases hp : k < s.size
    · obtain ⟨r, wd, hd, hwd, hlo, hhi, hr⟩ := decode_cases s k hp
      have hnx : ∀ ty, (Instr.next (.pointer (some ⟨w.heap.size, 0, none⟩)) true ty).run Tryd.prog (w.iter s k) = .ok (.tuple #[.bool true, .int .i64 k, .int .i32 r]) (w.iter s (k + wd)) := fun ty => by
        rw [run_next_any w s k ty hp, hd]
      have hget : s.data.getD k 0 = s[k] := by
        rw [Array.getD_eq_getD_getElem?, Array.getElem?_eq_getElem hp]; rfl
      have HG := Lib.hid hget
      have HD := Lib.hid hd
      clear hget hd
      by_cases h4 : 4 ≤ k
      · have i4 : (4 : Int) ≤ k := by omega
        have hno := Lib.hid (isNameB_long s (by omega))
        go_wp2
        go_ret
        exact ⟨by rw [hno.out]; rfl, iter_below _ _ _⟩
      · have i4 : ¬ (4 : Int) ≤ k := by omega
        by_cases hlet : 97 ≤ r ∧ r ≤ 122
        · have hc := hlo (by omega)
          have hct := Lib.hid hc
          have i1 : 97 ≤ (r : Int) := by omega
          have i2 : (r : Int) ≤ 122 := by omega
          have hR := Lib.hid hlet
          clear hlet hc hlo hhi
          go_wp2_with fail
          refine (letter_yes r _ i1 i2).mono ?_
          rintro e w' ⟨rfl, rfl⟩
          go_wp2
          go_roundw
          case rel =>
            refine ⟨k + wd, rfl, rfl, by have := hct.out; omega, by have := hct.out; omega, fun j hj => ?_⟩
            have h1 := hct.out
            by_cases e : j = k
            · subst e
              rw [HG.out]
              have := hR.out
              simp [nameAt, show 97 ≤ s[j].toNat by omega, show s[j].toNat ≤ 122 by omega]
            · exact HA.out j (by omega)
          case measure => simp; omega
        · have i1 : (r : Int) < 97 ∨ 122 < (r : Int) := by omega
          by_cases hk0 : k = 0
          · have hno := Lib.hid (isNameB_no s k hp (by
              rw [HG.out]
              by_cases h128 : r < 128
              · have := hlo h128
                exact nameAt_no _ _ (by omega) (.inl (by omega))
              · have := hhi (by omega)
                exact nameAt_no _ _ (by omega) (.inl (by omega))))
            have i0 : ((k : Int) == 0) = true := by rw [beq_iff_eq]; omega
            have hR := Lib.hid hlet
            have hk0' := Lib.hid hk0
            clear hlet hlo hhi hk0
            go_wp2_with fail
            refine (letter_no r _ i1).mono ?_
            rintro e w' ⟨rfl, rfl⟩
            clear i1
            go_wp2
            go_ret
            exact ⟨by rw [hno.out]; rfl, iter_below _ _ _⟩
          · have i0 : ((k : Int) == 0) = false := by rw [beq_eq_false_iff_ne]; omega
            by_cases hdig : 48 ≤ r ∧ r ≤ 57
            · have hc := hlo (by omega)
              have hct := Lib.hid hc
              have i3 : 48 ≤ (r : Int) := by omega
              have i5 : (r : Int) ≤ 57 := by omega
              have hR := Lib.hid hdig
              clear hlet hc hlo hhi hdig
              go_wp2_with fail
              refine (letter_no r _ i1).mono ?_
              rintro e w' ⟨rfl, rfl⟩
              clear i1
              go_wp2_with fail
              refine (digit_yes r _ i3 i5).mono ?_
              rintro e w' ⟨rfl, rfl⟩
              go_wp2
              go_roundw
              case rel =>
                refine ⟨k + wd, rfl, rfl, by have := hct.out; omega, by have := hct.out; omega, fun j hj => ?_⟩
                have h1 := hct.out
                by_cases e : j = k
                · subst e
                  rw [HG.out]
                  have := hR.out
                  simp [nameAt, show 48 ≤ s[j].toNat by omega, show s[j].toNat ≤ 57 by omega, show 0 < j by omega]
                · exact HA.out j (by omega)
              case measure => simp; omega
            · have i3 : (r : Int) < 48 ∨ 57 < (r : Int) := by omega
              have hno := Lib.hid (isNameB_no s k hp (by
                rw [HG.out]
                by_cases h128 : r < 128
                · have := hlo h128
                  exact nameAt_no _ _ (by omega) (.inr (by omega))
                · have := hhi (by omega)
                  exact nameAt_no _ _ (by omega) (.inr (by omega))))
              clear hlet hlo hhi hdig
              go_wp2_with fail
              refine (letter_no r _ i1).mono ?_
              rintro e w' ⟨rfl, rfl⟩
              clear i1
              go_wp2_with fail
              refine (digit_no r _ i3).mono ?_
              rintro e w' ⟨rfl, rfl⟩
              clear i3
              go_wp2
              go_ret
              exact ⟨by rw [hno.out]; rfl, iter_below _ _ _⟩
    · have hnx : ∀ ty, (Instr.next (.pointer (some ⟨w.heap.size, 0, none⟩)) true ty).run Tryd.prog (w.iter s k) = _ := fun ty => run_next_end w s k ty hp
      have hB := Lib.hid (isNameB_all s (fun j hj => HA.out j (by omega)))
      by_cases h0 : s.size = 0
      · have he : s.toList.isEmpty = true := by rw [ByteArray.toList_eq, List.isEmpty_iff, ← List.length_eq_zero_iff, Array.length_toList]; exact h0
        have H0 := Lib.hid h0
        clear h0
        go_wp2
        go_ret
        exact ⟨by rw [hB.out, H0.out]; rfl, iter_below _ _ _⟩
      · have he : s.toList.isEmpty = false := by
          rw [ByteArray.toList_eq, Bool.eq_false_iff, Ne, List.isEmpty_iff, ← List.length_eq_zero_iff, Array.length_toList]; exact h0
        have H0 := Lib.hid h0
        clear h0
        go_wp2
        go_ret
        refine ⟨?_, iter_below _ _ _⟩
        have := H0.out
        rw [hB.out]
        simp [show 1 ≤ s.size by omega, show s.size ≤ 4 by omega]

end Go.Proofs.YtceclhndagoddaaDoor
end
