/- Lemmas: SpecVText, VDrawT. -/
import Derived.Test.YtceclhndagoddaaGreatDoorLawFnValueText_15
import Derived.Test.YtceclhndagoddaaGreatDoorLawFnValueText_13
import Derived.BigGuard
import Derived.Test.YtceclhndagoddaaGreatDoorLawFnValueText_12

section
namespace Go.Proofs.YtceclhndagoddaaGreatDoor
open Go.RowKit

/-- What the text is joined of. -/
def piecesV (k : Int) (ls : List ByteArray) (ts : List Va) : List (List UInt8) := if k = 3 then labE ls (txtVs ts) else txtVs ts
theorem byte5 (a : UInt8) (x : ByteArray) (b : UInt8) (y : List UInt8) (c : UInt8) : (⟨#[a]⟩ ++ x ++ ⟨#[b]⟩ ++ ⟨y.toArray⟩ ++ ⟨#[c]⟩ : ByteArray) = ⟨(a :: (x.data.toList ++ b :: (y ++ [c]))).toArray⟩ := by
  apply ByteArray.ext
  simp only [ByteArray.data_append]
  apply Array.toList_inj.1
  simp
theorem sizeVas_len : ∀ (ts : List Va), ts.length ≤ sizeVas ts
  | [] => Nat.le_refl _
  | t :: r => by
    have h1 := sizeVas_len r
    have h2 := sizeVa_eq t
    rw [sizeVas, List.length_cons]
    omega
def TextVOne (f : Nat) (t : Va) : Prop := ∀ (v : Value) (w : World), VaAt w w.heap.size v t → formVa t = true → numsB t = true → sizeVa t ≤ 1000 → Calls Tryz.prog f #[v] w (StrIs ⟨(txtV t).toArray⟩ w)

set_option maxHeartbeats 8000000 in
set_option maxRecDepth 100000 in
theorem specTextV_of (k0 n0 : Int) (nm : ByteArray) (ls : List ByteArray) (ts : List Va) (hall : ∀ i, (h : i < ts.length) → TextVOne 19 ts[i]) : TextVOne 19 (.mk k0 n0 nm ls ts) := by
  intro v w hv hf hq hsz
  obtain ⟨i0, hi, hz0, hz1, hz2⟩ := info_parts infoString
  have htx : txtV (.mk k0 n0 nm ls ts) = nodeTxtV k0 n0 nm ls (txtVs ts) := by rw [txtV]
  rw [formVa, Bool.and_eq_true] at hf
  obtain ⟨hq1, hq2⟩ := numsB_of _ hq
  simp only [Va.num, Va.args] at hq1 hq2
  obtain ⟨hsum, hlts⟩ := txtVs_sum ts fun i hi => txtV_len ts[i] (formVas_get hf.1 i hi) (hq2 i hi)
  have hsz2 : 1 + sizeVas ts ≤ 1000 := by rw [sizeVa] at hsz; exact hsz
  have HF := Lib.hid hf.1
  have hkind := nodeVB_kind hf.2
  have hpl : (bytesOf (piecesV k0 ls ts)).length = ts.length := by
    rw [bytesOf_len]
    unfold piecesV
    split
    · rcases hkind with ⟨h1, _⟩ | ⟨h1, _⟩ | ⟨h1, h2, _⟩ | ⟨h1, _⟩ | h1
      · omega
      · omega
      · rw [labE_same _ _ (by omega)]
        exact h2
      · omega
      · omega
    · exact hlts
  have hps : sumLens (piecesV k0 ls ts) ≤ 26000 := by
    unfold piecesV
    split
    · rcases hkind with ⟨h1, _⟩ | ⟨h1, _⟩ | ⟨h1, h2, h3⟩ | ⟨h1, _⟩ | h1
      · omega
      · omega
      · have := (labE_sum ls (txtVs ts) fun l hl => name_len (labelsB_names h3 l hl)).1
        omega
      · omega
      · omega
    · omega
  have hnms : k0 = 4 → nm.size ≤ 4 := fun h => by
    rcases hkind with ⟨h1, _⟩ | ⟨h1, _⟩ | ⟨h1, _⟩ | ⟨h1, _, h2⟩ | h1
    · omega
    · omega
    · omega
    · exact name_len h2
    · omega
  have HKIND := Lib.hid hkind
  have HPL := Lib.hid hpl
  have HPS := Lib.hid hps
  have HTX := Lib.hid htx
  have HALL := Lib.hid hall
  have HNQ := Lib.hid hq2
  have HNM := Lib.hid hnms
  have HQ1 := Lib.hid hq1
  obtain ⟨L, lc, A, ac, rfl, hnm, hn, hz, hl, ha⟩ := hv.open
  simp only [Va.kind, Va.num, Va.name, Va.labels, Va.args] at *
  have hm := ha.1
  clear hall hv hz hf hkind hpl hps htx hsum hlts hq hq2 hnms hnm hq1
  obtain ⟨hb0, p0, q0, hs0⟩ := boxes2 w 27 9 #[.int .i64 k0, .int .i64 n0, .string nm, .slice L ls.length lc, .slice A ts.length ac] #[]
  have hown0 : ((w.alloc (.cells #[.int .i64 k0, .int .i64 n0, .string nm, .slice L ls.length lc, .slice A ts.length ac] 27)).alloc (.cells #[] 9)).ownsRow (w.heap.size + 1) 9 1 (.slice (some ⟨w.heap.size + 1, 0, none⟩) 0 0) 0 [] := by
    have := World.ownsRow_lit (base := w.heap.size + 1) (e := 9) (size := 1) (w.alloc (.cells #[.int .i64 k0, .int .i64 n0, .string nm, .slice L ls.length lc, .slice A ts.length ac] 27)) #[] 0 (by simp) (Nat.zero_le _) rfl
    rw [show (w.alloc (.cells #[.int .i64 k0, .int .i64 n0, .string nm, .slice L ls.length lc, .slice A ts.length ac] 27)).heap.size = w.heap.size + 1 by simp] at this
    exact this
  have ha0 := ha.below hb0
  have hl0 := hl.below hb0
  have HZ := Lib.hid hs0
  have hszw : w.heap.size + 2 ≤ ((w.alloc (.cells #[.int .i64 k0, .int .i64 n0, .string nm, .slice L ls.length lc, .slice A ts.length ac] 27)).alloc (.cells #[] 9)).heap.size := by omega
  clear hs0 ha hl q0
  go_enter Tryz.func19, Tryz.ntmps19
  go_wp2
  generalize (w.alloc (.cells #[.int .i64 k0, .int .i64 n0, .string nm, .slice L ls.length lc, .slice A ts.length ac] 27)).alloc (.cells #[] 9) = w0 at *
  have hpw := p0.lt
  go_loopw [3, 4] (fun a i wr => ∃ k : Nat, k ≤ ts.length ∧ i = .int .i64 k ∧ wr.ownsRow (w.heap.size + 1) 9 1 a k (strVals ((bytesOf (piecesV k0 ls ts)).take k)) ∧ Below (w.heap.size + 1) w0 wr) (fun _ i _ => ts.length - (intOf i).toNat)
  case atStart => exact ⟨0, Nat.zero_le _, rfl, hown0, Below.refl _ _⟩
  case round =>
    obtain ⟨k, hk, rfl, hown, hb⟩ := hrel
    have hbW := hb.mono (Nat.le_succ w.heap.size)
    have p1 := p0.below hb (Nat.lt_succ_self _)
    have c0 : wr.cell? ⟨w.heap.size, 0, none⟩ = some (.int .i64 k0) := p1.cell 0
    have c1 : wr.cell? ⟨w.heap.size, 1, none⟩ = some (.int .i64 n0) := p1.cell 1
    have c2 : wr.cell? ⟨w.heap.size, 2, none⟩ = some (.string nm) := p1.cell 2
    have c3 : wr.cell? ⟨w.heap.size, 3, none⟩ = some (.slice L ls.length lc) := p1.cell 3
    have c4 : wr.cell? ⟨w.heap.size, 4, none⟩ = some (.slice A ts.length ac) := p1.cell 4
    have hbs := hb.size
    by_cases hlt : k < ts.length
    · obtain ⟨b, off, L1, lc1, A1, ac1, rfl, hbl, q0, q1, q2, q3, q4, ht⟩ := (ha0.below hbW).elem k hlt
      have htk := sizeVas_take ts k hlt
      have htl := sizeVas_le ts (k + 1)
      have htx := Lib.hid (txtV_len ts[k] (formVas_get HF.out k hlt) (HNQ.out k hlt))
      have htk2 : sizeVa ts[k] ≤ 999 := by omega
      have htk3 : ts.length ≤ 1000 := by have := sizeVas_len ts; omega
      have HT := Lib.hid (HALL.out k hlt _ wr (ht.more (by omega)) (formVas_get HF.out k hlt) (HNQ.out k hlt) (by omega))
      clear ht htk htl
      go_wp2_with fail
      refine HT.out.mono ?_
      rintro e w3 ⟨rfl, hb3'⟩
      have hb3 := hb.trans (hb3'.mono (by omega))
      have HOWN := Lib.hid (own_keep1 (w' := w3) hown (fun g hg => hb3'.block g (hown.lt g hg).2))
      have p3 := p0.below hb3 (Nat.lt_succ_self _)
      have d0 : w3.cell? ⟨w.heap.size, 0, none⟩ = some (.int .i64 k0) := p3.cell 0
      have d3 : w3.cell? ⟨w.heap.size, 3, none⟩ = some (.slice L ls.length lc) := p3.cell 3
      have HL := Lib.hid (hl0.below (hb3.mono (Nat.le_succ w.heap.size)))
      have hs3 := hb3.size
      clear hown p1 p3 c0 c1 c2 c3 c4 q0 q1 q2 q3 q4
      by_cases h5 : k0 = 3
      · have hlk : k < ls.length := by
          rcases HKIND.out with ⟨h1, _⟩ | ⟨h1, _⟩ | ⟨h1, h2, _⟩ | ⟨h1, _⟩ | h1 <;> omega
        have hlkI : (k : Int) < (ls.length : Int) := by omega
        obtain ⟨bl, ol, rfl, hbl2, hcl⟩ := HL.out k hlk
        have hl4 : ls[k].size ≤ 4 := by
          rcases HKIND.out with ⟨h1, _⟩ | ⟨h1, _⟩ | ⟨h1, h2, h3⟩ | ⟨h1, _⟩ | h1
          · omega
          · omega
          · exact name_len (labelsB_names h3 _ (List.getElem_mem hlk))
          · omega
          · omega
        have hj1 : ¬ 9223372036854775807 < ls[k].size + 1 := by omega
        have hj2 : ¬ 9223372036854775807 < ls[k].size + 1 + (txtV ts[k]).length := by have := htx.out; omega
        have HPK : Hid ((bytesOf (piecesV k0 ls ts))[k]'(by rw [HPL.out]; exact hlt) = (ls[k] ++ ⟨#[61]⟩ ++ ⟨(txtV ts[k]).toArray⟩)) := Lib.hid (by
          simp only [bytesOf, piecesV, if_pos h5, List.getElem_map]
          rw [labE_get ls (txtVs ts) k hlk (by rw [txtVs_map]; simpa using hlt)]
          apply ByteArray.ext
          rw [ByteArray.data_append, ByteArray.data_append]
          simp [txtVs_map])
        subst h5
        go_wp2_with (at_builtin; refine wpList_append_own _ rfl (.tmp 31) (.tmp 33) _ rfl (w.heap.size + 1) 9 i0 (.string ⟨#[]⟩) 1 16 Tryz.underlying24 hi hz0 hz1 hz2 rfl (by decide) _ _ _ rfl (HOWN.out.alloc _) ⟨w3.heap.size, 0, none⟩ 1 1 [.string (ls[k] ++ ⟨#[61]⟩ ++ ⟨(txtV ts[k]).toArray⟩)] rfl rfl (cellNew w3 9 _) (by intro u hu; simp at hu; subst hu; rfl) (by unfold maxLen; omega) (by omega) (by have := hb3.size; simp; omega) ?_; intro v1 w4 hown1 hg1 _)
        go_roundw
        case rel => exact ⟨k + 1, by omega, by go_num, by rw [show strVals ((bytesOf (piecesV 3 ls ts)).take (k + 1)) = strVals ((bytesOf (piecesV 3 ls ts)).take k) ++ [.string (ls[k] ++ ⟨#[61]⟩ ++ ⟨(txtV ts[k]).toArray⟩)] from by rw [List.take_succ_eq_append_getElem (by rw [HPL.out]; omega), HPK.out]; simp [strVals]]; exact hown1, (hb3.alloc (by omega) _).grown hg1 (by have := hb3.size; simp; omega) (fun q hq => by have := (HOWN.out.lt q hq).1; omega)⟩
        case measure => simp [intOf]; omega
      · have HPK : Hid ((bytesOf (piecesV k0 ls ts))[k]'(by rw [HPL.out]; exact hlt) = ⟨(txtV ts[k]).toArray⟩) := Lib.hid (by
          simp only [bytesOf, piecesV, if_neg h5, List.getElem_map, txtVs_map])
        have hk5 : (k0 == 3) = false := by rw [beq_eq_false_iff_ne]; exact h5
        go_wp2_with (at_builtin; refine wpList_append_own _ rfl (.tmp 31) (.tmp 33) _ rfl (w.heap.size + 1) 9 i0 (.string ⟨#[]⟩) 1 16 Tryz.underlying24 hi hz0 hz1 hz2 rfl (by decide) _ _ _ rfl (HOWN.out.alloc _) ⟨w3.heap.size, 0, none⟩ 1 1 [.string ⟨(txtV ts[k]).toArray⟩] rfl rfl (cellNew w3 9 _) (by intro u hu; simp at hu; subst hu; rfl) (by unfold maxLen; omega) (by omega) (by have := hb3.size; simp; omega) ?_; intro v1 w4 hown1 hg1 _)
        go_roundw
        case rel => exact ⟨k + 1, by omega, by go_num, by rw [show strVals ((bytesOf (piecesV k0 ls ts)).take (k + 1)) = strVals ((bytesOf (piecesV k0 ls ts)).take k) ++ [.string ⟨(txtV ts[k]).toArray⟩] from by rw [List.take_succ_eq_append_getElem (by rw [HPL.out]; omega), HPK.out]; simp [strVals]]; exact hown1, (hb3.alloc (by omega) _).grown hg1 (by have := hb3.size; simp; omega) (fun q hq => by have := (HOWN.out.lt q hq).1; omega)⟩
        case measure => simp [intOf]; omega
    · have hke : k = ts.length := by omega
      subst hke
      rw [List.take_of_length_le (by rw [HPL.out]; exact Nat.le_refl _)] at hown
      obtain ⟨A3, c5, rfl, hst⟩ := own_strings hown
      have HB := Lib.hid (hb0.trans hbW)
      have hpn : (bytesOf (piecesV k0 ls ts)).length = ts.length := HPL.out
      have htk3 : ts.length ≤ 1000 := by have := sizeVas_len ts; omega
      have HJ := Lib.hid (specJoin_any A3 c5 (bytesOf (piecesV k0 ls ts)) ⟨#[44]⟩ wr hst (by omega) (by rw [bytesOf_sum]; have := HPS.out; omega) (by decide))
      have HC : Hid (joinTo (bytesOf (piecesV k0 ls ts)) ⟨#[44]⟩ (bytesOf (piecesV k0 ls ts)).length = commas (piecesV k0 ls ts)) := Lib.hid (by
        rw [bytesOf_len, join_commas _ _ (Nat.le_refl _), List.take_of_length_le (Nat.le_refl _)])
      have HST := Lib.hid hst
      have HPN := Lib.hid hpn
      clear hown hst p1 ha0 hl0 hpn
      have hpn' : (bytesOf (piecesV k0 ls ts)).length = ts.length := HPN.out
      rcases HKIND.out with ⟨rfl, hm0⟩ | ⟨rfl, hm0, hn0, hn1⟩ | ⟨rfl, h2, h3⟩ | ⟨rfl, h2, h3⟩ | rfl
      · have HI := Lib.hid (specFormatInt_any n0 wr HQ1.out.1 (by have := HQ1.out.2; omega))
        clear hm0
        go_wp2_with fail
        refine HI.out.mono ?_
        rintro e w5 ⟨rfl, hb5⟩
        go_wp2
        go_ret
        exact ⟨by rw [HTX.out]; rfl, HB.out.trans (hb5.mono HB.out.size)⟩
      · have hn01 : n0 = 0 ∨ n0 = 1 := by omega
        clear hn0 hn1 hm0
        rcases hn01 with rfl | rfl
        · go_wp2
          go_ret
          exact ⟨by rw [HTX.out]; rfl, HB.out⟩
        · go_wp2
          go_ret
          exact ⟨by rw [HTX.out]; rfl, HB.out⟩
      · have hJ := HJ.out
        rw [HC.out] at hJ
        have hJl := commas_len (piecesV 3 ls ts)
        have hJp := HPS.out
        rw [bytesOf_len] at hpn'
        have HE : Hid (txtV (.mk 3 n0 nm ls ts) = 123 :: (commas (piecesV 3 ls ts) ++ [125])) := Lib.hid (by rw [HTX.out]; rfl)
        generalize commas (piecesV 3 ls ts) = J at *
        have hj1 : ¬ 9223372036854775807 < 1 + J.length := by omega
        have hj2 : ¬ 9223372036854775807 < 1 + J.length + 1 := by omega
        have HJ2 := Lib.hid hJ
        clear h2 h3 hJ hJl hJp hpn'
        go_wp2_with fail
        refine HJ2.out.mono ?_
        rintro e w5 ⟨rfl, hb5⟩
        go_wp2
        go_ret
        exact ⟨by rw [HE.out, byte3]; rfl, HB.out.trans (hb5.mono HB.out.size)⟩
      · have h0 : 0 < (bytesOf (piecesV 4 ls ts)).length := by rw [HPN.out]; omega
        obtain ⟨b, o, rfl, hbl, hcl⟩ := HST.out 0 h0
        have h0I : (0 : Int) < ((bytesOf (piecesV 4 ls ts)).length : Int) := by omega
        have h00 : 0 < (txtVs ts).length := by rw [txtVs_map, List.length_map]; omega
        have e0 : (bytesOf (piecesV 4 ls ts))[0] = ⟨((txtVs ts).headD []).toArray⟩ := by
          obtain ⟨a, r, hT⟩ : ∃ a r, txtVs ts = a :: r := by
            cases hT : txtVs ts with
            | nil => rw [hT] at h00; simp at h00
            | cons a r => exact ⟨a, r, rfl⟩
          simp only [bytesOf, piecesV, if_neg (show ¬ (4 : Int) = 3 by decide), List.getElem_map, hT]
          rfl
        rw [Nat.add_zero, e0] at hcl
        have HE : Hid (txtV (.mk 4 n0 nm ls ts) = 60 :: (nm.data.toList ++ 32 :: ((txtVs ts).headD [] ++ [62]))) := Lib.hid (by rw [HTX.out]; rfl)
        have hTl : ((txtVs ts).headD []).length ≤ sumLens (txtVs ts) := by
          cases txtVs ts with
          | nil => simp
          | cons a r => simp [sumLens]
        have hTp : sumLens (txtVs ts) ≤ 26000 := by have := HPS.out; unfold piecesV at this; rw [if_neg (by decide)] at this; exact this
        generalize (txtVs ts).headD [] = T at *
        have hnz := HNM.out rfl
        have hj0 : ¬ 9223372036854775807 < 1 + nm.size := by omega
        have hj1 : ¬ 9223372036854775807 < 1 + nm.size + 1 := by omega
        have hj2 : ¬ 9223372036854775807 < 1 + nm.size + 1 + T.length := by omega
        have hj3 : ¬ 9223372036854775807 < 1 + nm.size + 1 + T.length + 1 := by omega
        clear h2 h3 hTl hTp e0 h00 hnz
        go_wp2
        go_quiet (fail)
        go_wp2
        go_ret
        exact ⟨by rw [HE.out, byte5]; rfl, ⟨HB.out.os, HB.out.tape, HB.out.output, HB.out.size, HB.out.block⟩⟩
      · have hJ := HJ.out
        rw [HC.out] at hJ
        have hJl := commas_len (piecesV 5 ls ts)
        have hJp := HPS.out
        rw [bytesOf_len] at hpn'
        have HE : Hid (txtV (.mk 5 n0 nm ls ts) = 91 :: (commas (piecesV 5 ls ts) ++ [93])) := Lib.hid (by rw [HTX.out]; rfl)
        generalize commas (piecesV 5 ls ts) = J at *
        have hj1 : ¬ 9223372036854775807 < 1 + J.length := by omega
        have hj2 : ¬ 9223372036854775807 < 1 + J.length + 1 := by omega
        have HJ2 := Lib.hid hJ
        clear hJ hJl hJp hpn'
        go_wp2_with fail
        refine HJ2.out.mono ?_
        rintro e w5 ⟨rfl, hb5⟩
        go_wp2
        go_ret
        exact ⟨by rw [HE.out, byte3]; rfl, HB.out.trans (hb5.mono HB.out.size)⟩

theorem specTextV_any (t : Va) : TextVOne 19 t := by
  induction t using Va.ind with
  | h k n nm ls ts ih => exact specTextV_of k n nm ls ts ih

set_option maxHeartbeats 1000000 in
theorem specFormatV_any (t : Va) (v : Value) (w : World) (hv : VaAt w w.heap.size v t) (hsz : szVa t ≤ 1048576) (hq : numsB t = true) : Calls Tryz.prog 8 #[v] w (StrIs (formatVB t) w) := by
  have HX : valueB t = true → Hid (∀ W, Below w.heap.size w W → Calls Tryz.prog 19 #[v] W (StrIs ⟨(txtV t).toArray⟩ W)) := fun h => Lib.hid fun W hb => by
    unfold valueB at h
    simp only [Bool.and_eq_true, decide_eq_true_eq] at h
    exact specTextV_any t v W (hv.up hb) h.2 hq (by omega)
  have hv0 := hv
  obtain ⟨L, lc, A, ac, rfl, _⟩ := hv.open
  obtain ⟨hb0, p0, hs0⟩ := boxes1 w 27 #[.int .i64 t.kind, .int .i64 t.num, .string t.name, .slice L t.labels.length lc, .slice A t.args.length ac]
  have HV := Lib.hid (specIsValue_any t _ _ (hv0.up hb0) hsz)
  have p00 := Lib.hid p0
  have c0 : (w.alloc (.cells #[.int .i64 t.kind, .int .i64 t.num, .string t.name, .slice L t.labels.length lc, .slice A t.args.length ac] 27)).cell? ⟨w.heap.size, 0, none⟩ = some (.int .i64 t.kind) := p0.cell 0
  have c1 : (w.alloc (.cells #[.int .i64 t.kind, .int .i64 t.num, .string t.name, .slice L t.labels.length lc, .slice A t.args.length ac] 27)).cell? ⟨w.heap.size, 1, none⟩ = some (.int .i64 t.num) := p0.cell 1
  have c2 : (w.alloc (.cells #[.int .i64 t.kind, .int .i64 t.num, .string t.name, .slice L t.labels.length lc, .slice A t.args.length ac] 27)).cell? ⟨w.heap.size, 2, none⟩ = some (.string t.name) := p0.cell 2
  have c3 : (w.alloc (.cells #[.int .i64 t.kind, .int .i64 t.num, .string t.name, .slice L t.labels.length lc, .slice A t.args.length ac] 27)).cell? ⟨w.heap.size, 3, none⟩ = some (.slice L t.labels.length lc) := p0.cell 3
  have c4 : (w.alloc (.cells #[.int .i64 t.kind, .int .i64 t.num, .string t.name, .slice L t.labels.length lc, .slice A t.args.length ac] 27)).cell? ⟨w.heap.size, 4, none⟩ = some (.slice A t.args.length ac) := p0.cell 4
  clear hv hv0 hs0
  cases hvb : valueB t
  · rw [hvb] at HV
    have HE : Hid (formatVB t = ⟨#[]⟩) := Lib.hid (by unfold formatVB; rw [hvb]; rfl)
    clear HX hvb
    go_enter Tryz.func8, Tryz.ntmps8
    go_wp2_with fail
    generalize w.alloc (.cells #[.int .i64 t.kind, .int .i64 t.num, .string t.name, .slice L t.labels.length lc, .slice A t.args.length ac] 27) = w0 at *
    refine HV.out.mono ?_
    rintro e w1 ⟨rfl, hb1⟩
    go_wp2
    go_ret
    exact ⟨by rw [HE.out]; rfl, hb0.trans (hb1.mono hb0.size)⟩
  · rw [hvb] at HV
    have HE : Hid (formatVB t = ⟨(txtV t).toArray⟩) := Lib.hid (by unfold formatVB; rw [hvb]; rfl)
    have HX2 := HX hvb
    clear HX hvb
    go_enter Tryz.func8, Tryz.ntmps8
    go_wp2_with fail
    generalize w.alloc (.cells #[.int .i64 t.kind, .int .i64 t.num, .string t.name, .slice L t.labels.length lc, .slice A t.args.length ac] 27) = w0 at *
    refine HV.out.mono ?_
    rintro e w1 ⟨rfl, hb1⟩
    have hb01 := hb0.trans (hb1.mono hb0.size)
    have HX3 := Lib.hid (HX2.out w1 hb01)
    have p1 := p0.below hb1 p0.lt
    have d0 : w1.cell? ⟨w.heap.size, 0, none⟩ = some (.int .i64 t.kind) := p1.cell 0
    have d1 : w1.cell? ⟨w.heap.size, 1, none⟩ = some (.int .i64 t.num) := p1.cell 1
    have d2 : w1.cell? ⟨w.heap.size, 2, none⟩ = some (.string t.name) := p1.cell 2
    have d3 : w1.cell? ⟨w.heap.size, 3, none⟩ = some (.slice L t.labels.length lc) := p1.cell 3
    have d4 : w1.cell? ⟨w.heap.size, 4, none⟩ = some (.slice A t.args.length ac) := p1.cell 4
    clear p1 c0 c1 c2 c3 c4
    go_wp2_with fail
    refine HX3.out.mono ?_
    rintro e w2 ⟨rfl, hb2⟩
    go_wp2
    go_ret
    exact ⟨by rw [HE.out]; rfl, hb01.trans (hb2.mono hb01.size)⟩

end Go.Proofs.YtceclhndagoddaaGreatDoor
end

section
namespace Go.Proofs.YtceclhndagoddaaGreatDoor
set_option maxRecDepth 100000
open Go.RowKit
attribute [local go_sem ↓] Go.wp_at_zero Go.wp_at_succ

set_option maxHeartbeats 2000000 in
theorem drawFormatValue_any (A : Option Addr) (n cap : Nat) (w : World) (hA : BytesAt w w.heap.size A n) (hn : n ≤ 2 ^ 47) :
    Calls Tryz.prog 5 #[.slice A n cap] w (GivesVa w) := by
  obtain ⟨hb0, r0, hs0⟩ := boxes1 w 27 #[.int .i64 0, .int .i64 0, .string ⟨#[]⟩, .slice none 0 0, .slice none 0 0]
  have hc := Lib.hid (l1New_any A n cap (w.alloc (.cells #[.int .i64 0, .int .i64 0, .string ⟨#[]⟩, .slice none 0 0, .slice none 0 0] 27)) (hA.alloc _) hn)
  have hp := Lib.hid (fun p B W h => specBentV_any p B W h)
  clear hA
  go_enter Tryz.func5, Tryz.ntmps5
  go_wp2_with fail
  refine hc.out.mono ?_
  rintro e w1 ⟨p, rfl, hc1, hb1⟩
  go_wp2_with fail
  refine (hp.out p _ w1 hc1).mono ?_
  rintro e w2 ⟨⟨v, t, rfl, hO, hz, hnb⟩, hc2, hg2⟩
  have hi := hO.owned
  obtain ⟨L, lc, A2, ac, rfl⟩ := hO.open
  have hs1 := hb1.size
  have hb2 := below_only hb1 hg2 hb1.size hc1.low
  have r2 := r0.below hb2 r0.lt
  rw [hs0] at hs1
  have hbw := hb0.trans (hb2.mono hb0.size)
  have d0 : w2.cell? ⟨w.heap.size, 0, none⟩ = some (.int .i64 0) := r2.cell 0
  have f0 : w2.frozen? ⟨w.heap.size, 0, none⟩ = false := r2.free 0
  have d1 : w2.cell? ⟨w.heap.size, 1, none⟩ = some (.int .i64 0) := r2.cell 1
  have f1 : w2.frozen? ⟨w.heap.size, 1, none⟩ = false := r2.free 1
  have d2 : w2.cell? ⟨w.heap.size, 2, none⟩ = some (.string ⟨#[]⟩) := r2.cell 2
  have f2 : w2.frozen? ⟨w.heap.size, 2, none⟩ = false := r2.free 2
  have d3 : w2.cell? ⟨w.heap.size, 3, none⟩ = some (.slice none 0 0) := r2.cell 3
  have f3 : w2.frozen? ⟨w.heap.size, 3, none⟩ = false := r2.free 3
  have d4 : w2.cell? ⟨w.heap.size, 4, none⟩ = some (.slice none 0 0) := r2.cell 4
  have f4 : w2.frozen? ⟨w.heap.size, 4, none⟩ = false := r2.free 4
  have HF : Hid (∀ a b c d e, GivesVa w (.returned (.agg #[.int .i64 t.kind, .int .i64 t.num, .string t.name, .slice L t.labels.length lc, .slice A2 t.args.length ac])) (((((w2.setCell ⟨w.heap.size, 0, none⟩ a).setCell ⟨w.heap.size, 1, none⟩ b).setCell ⟨w.heap.size, 2, none⟩ c).setCell ⟨w.heap.size, 3, none⟩ d).setCell ⟨w.heap.size, 4, none⟩ e)) := Lib.hid (fun a b c d e => ⟨⟨_, t, rfl, vaIn_set5 hi w.heap.size w.heap.size (by omega) (by omega) a b c d e, hz, hnb⟩, ((((hbw.setCell (by simp) _).setCell (by simp) _).setCell (by simp) _).setCell (by simp) _).setCell (by simp) _⟩)
  clear hi hO hc1 hb1 hc2 hg2 hb2 r2 r0 hb0
  go_wp2
  exact bodyPost_ret (v := .agg #[.int .i64 t.kind, .int .i64 t.num, .string t.name, .slice L t.labels.length lc, .slice A2 t.args.length ac]) (by simp [results, Tryz.results5, go_sem, d0, d1, d2, d3, d4]) rfl (HF.out _ _ _ _ _)

theorem formatV_len (t : Va) (hn : numsB t = true) : (formatVB t).size ≤ 7800 := by
  unfold formatVB
  split
  · rename_i h
    unfold valueB at h
    simp only [Bool.and_eq_true, decide_eq_true_eq] at h
    have h1 := txtV_len t h.2 hn
    show (txtV t).toArray.size ≤ 7800
    simp
    omega
  · exact Nat.zero_le _

/-- A text is drawn. -/
def GivesTxtV (w : World) (e : Ending) (w' : World) : Prop := (∃ x : ByteArray, e = .returned (.string x) ∧ x.size ≤ 8000) ∧ Below w.heap.size w w'
def signsV : List ByteArray := [⟨#[91]⟩, ⟨#[93]⟩, ⟨#[123, 97, 61]⟩, ⟨#[44]⟩, ⟨#[35, 116]⟩, ⟨#[49]⟩, ⟨#[60, 112, 32]⟩]
theorem turnedV (p B : Nat) (s : ByteArray) (W : World) (h : CurAt W B p) (hs : s.size ≤ 7800) :
    Calls Tryz.prog 25 #[.pointer (some ⟨p, 0, none⟩), .string s, .slice (some ⟨W.heap.size, 0, none⟩) 7 7] (W.alloc (.cells #[.string ⟨#[91]⟩, .string ⟨#[93]⟩, .string ⟨#[123, 97, 61]⟩, .string ⟨#[44]⟩, .string ⟨#[35, 116]⟩, .string ⟨#[49]⟩, .string ⟨#[60, 112, 32]⟩] 9)) (DrawnTxt (W.alloc (.cells #[.string ⟨#[91]⟩, .string ⟨#[93]⟩, .string ⟨#[123, 97, 61]⟩, .string ⟨#[44]⟩, .string ⟨#[35, 116]⟩, .string ⟨#[49]⟩, .string ⟨#[60, 112, 32]⟩] 9)) B p (s.size + 8)) :=
  turned_any p B (W.heap.size + 1) 7 (some ⟨W.heap.size, 0, none⟩) signsV s _ (CurAt.belowP h ((Below.refl W.heap.size W).alloc (Nat.le_refl _) _) h.lt) (StrsAt.of_whole (t := 9) (Whole1.new W _ _) _ (by omega)) (fun q b off e => by cases e; have := h.lt; omega) (by decide) (by decide) (by decide) (by omega)

set_option maxHeartbeats 1000000 in
theorem drawParseValue_any (A : Option Addr) (n cap : Nat) (w : World) (hA : BytesAt w w.heap.size A n) (hn : n ≤ 2 ^ 47) :
    Calls Tryz.prog 11 #[.slice A n cap] w (GivesTxtV w) := by
  have hc := Lib.hid (l1New_any A n cap w hA hn)
  have hp := Lib.hid (fun p B W h => specBentV_any p B W h)
  have hT := Lib.hid (fun p B s W h hs => turnedV p B s W h hs)
  clear hA
  go_enter Tryz.func11, Tryz.ntmps11
  go_wp2_with fail
  refine hc.out.mono ?_
  rintro e w1 ⟨p, rfl, hc1, hb1⟩
  go_wp2_with fail
  refine (hp.out p _ w1 hc1).mono ?_
  rintro e w2 ⟨⟨v, t, rfl, hO, hz, hnb⟩, hc2, hg2⟩
  have hF := Lib.hid (specFormatV_any t v w2 hO.owned.here (by omega) (smallB_nums t hnb))
  have hfl := formatV_len t (smallB_nums t hnb)
  have hb2 := below_only hb1 hg2 hb1.size hc1.low
  obtain ⟨L, lc, A2, ac, rfl⟩ := hO.open
  clear hnb
  clear hO hc1 hb1 hg2
  go_wp2_with fail
  refine hF.out.mono ?_
  rintro e w3 ⟨rfl, hb3⟩
  have hc3 := hc2.belowP hb3 hc2.lt
  have hb23 := hb2.trans (hb3.mono hb2.size)
  generalize formatVB t = s at *
  have HTT := Lib.hid (hT.out p _ s w3 hc3 hfl)
  have hba := (Below.refl w3.heap.size w3).alloc (Nat.le_refl _) (.cells #[.string ⟨#[91]⟩, .string ⟨#[93]⟩, .string ⟨#[123, 97, 61]⟩, .string ⟨#[44]⟩, .string ⟨#[35, 116]⟩, .string ⟨#[49]⟩, .string ⟨#[60, 112, 32]⟩] 9)
  have HB := Lib.hid (hb23.trans (hba.mono hb23.size))
  have hcl := hc3.low
  clear hc3 hc2 hb3 hb2 hb23 hba
  go_wp2_with fail
  refine HTT.out.mono ?_
  rintro e w4 ⟨⟨x, rfl, hx⟩, hc4, hg4⟩
  have hb4 := below_only HB.out hg4 HB.out.size (by omega)
  clear hc4 hg4
  go_wp2
  go_ret
  exact ⟨⟨x, rfl, by omega⟩, hb4⟩

end Go.Proofs.YtceclhndagoddaaGreatDoor
end
