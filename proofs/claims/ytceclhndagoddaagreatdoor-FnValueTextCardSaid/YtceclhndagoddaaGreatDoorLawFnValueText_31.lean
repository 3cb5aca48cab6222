/- Lemmas: ImplVText. -/
import Derived.Test.YtceclhndagoddaaGreatDoorLawFnValueText_16
import Derived.Test.YtceclhndagoddaaGreatDoorLawFnValueText_27
import Derived.Test.YtceclhndagoddaaGreatDoorLawFnValueText_30
import Derived.Deep.RegionHeld3
import Derived.BigGuard

namespace Go.Proofs.YtceclhndagoddaaGreatDoor
open Go Go.RowKit
attribute [local go_sem] Oper.semAt_some

theorem textOfBool_any (n : Int) (w : World) : Calls Tryz.prog 35 #[.int .i64 n] w (StrIs ⟨[35, if n = 1 then 116 else 102].toArray⟩ w) := by
  by_cases h : n = 1
  · subst h
    go_enter Tryz.func35, Tryz.ntmps35
    go_wp2
    go_ret
    exact ⟨rfl, Below.refl _ _⟩
  · have hb : (n == 1) = false := by rw [beq_eq_false_iff_ne]; exact h
    rw [if_neg h]
    clear h
    go_enter Tryz.func35, Tryz.ntmps35
    go_wp2
    go_ret
    exact ⟨rfl, Below.refl _ _⟩

/-- The table of powers lies below. -/
def TabAt (w : World) : Prop := Pow10At w ∧ 1 < w.heap.size
theorem TabAt.below {w w' : World} (h : TabAt w) (hb : Below w.heap.size w w') : TabAt w' := ⟨h.1.below hb h.2, Nat.lt_of_lt_of_le h.2 hb.size⟩
def TextVI (t : Va) : Prop := ∀ (v : Value) (w : World), VaAt w w.heap.size v t → formVa t = true → numsB t = true → sizeVa t ≤ 1000 → TabAt w → Calls Tryz.prog 16 #[v] w (StrIs ⟨(txtV t).toArray⟩ w)

set_option maxHeartbeats 4000000 in
set_option maxRecDepth 100000 in
theorem partTexts_seq (k0 n0 : Int) (nm : ByteArray) (ls : List ByteArray) (ts : List Va) (hall : ∀ i, (h : i < ts.length) → TextVI ts[i]) (L A : Option Addr) (lc ac Bv : Nat) (w : World) (hbox : Whole1 w Bv 27 #[.int .i64 k0, .int .i64 n0, .string nm, .slice L ls.length lc, .slice A ts.length ac])
    (hl : StrsAt w w.heap.size L ls) (ha : VasAt w w.heap.size A ts) (hf : formVas ts = true) (hq : ∀ i, (h : i < ts.length) → numsB ts[i] = true) (hlab : k0 = 3 → ls.length = ts.length ∧ labelsB ls = true) (hsz : sizeVas ts ≤ 1000) (hpl : (bytesOf (piecesV k0 ls ts)).length = ts.length) (htab : TabAt w) :
    SeqStrs 6 91 #[.pointer (some ⟨Bv, 0, none⟩)] (fun ss _ => ss = bytesOf (piecesV k0 ls ts)) ts.length w := by
  intro l J Jx W hW hY h0
  have hm := ha.1
  have hts : ts.length ≤ 1000 := by have := sizeVas_len ts; omega
  have hbl := hbox.lt
  have hbW := hbox.below hW hbl
  have c4 : W.cell? ⟨Bv, 4, none⟩ = some (.slice A ts.length ac) := hbW.cell 4
  have HALL := Lib.hid hall
  have HF := Lib.hid hf
  have HQ := Lib.hid hq
  have HLAB := Lib.hid hlab
  have HPL := Lib.hid hpl
  have HY := Lib.hid hY
  have HA := Lib.hid ha
  have HL := Lib.hid hl
  have HB := Lib.hid hbox
  have HT := Lib.hid htab
  clear hall hf hq hlab hpl hY ha hl hbox htab hbW
  refine callsIn_of_wp Tryz.func91 rfl trivial ?_ rfl
  simp only [Tryz.ntmps91, List.size_toArray, List.length_cons, List.length_nil, Nat.reduceAdd, Nat.reduceSub, Array.replicate_succ, Array.replicate_zero, List.push_toArray, List.append_toArray, List.nil_append, List.cons_append]
  gi_wp2
  clear c4
  gi_loopw [9] (fun i wr => ∃ k : Nat, k ≤ ts.length ∧ i = .int .i64 k ∧ J ((bytesOf (piecesV k0 ls ts)).take k) wr ∧ Below w.heap.size w wr) (fun i _ => ts.length - (intOf i).toNat)
  case atStart => exact ⟨0, Nat.zero_le _, rfl, h0, hW⟩
  case round =>
    obtain ⟨k, hk, rfl, hJ, hb⟩ := hrel
    by_cases hlt : k < ts.length
    · have hltI : (k : Int) < (ts.length : Int) := by omega
      obtain ⟨b, off, L1, lc1, A1, ac1, rfl, hbl2, q0, q1, q2, q3, q4, ht⟩ := (HA.out.below hb).elem k hlt
      obtain ⟨hb1, p1, hs1⟩ := boxes1 wr 27 #[.int .i64 ts[k].kind, .int .i64 ts[k].num, .string ts[k].name, .slice L1 ts[k].labels.length lc1, .slice A1 ts[k].args.length ac1]
      have hbs := hb.size
      have hb1' := hb.trans (hb1.mono hbs)
      have htk := sizeVas_take ts k hlt
      have htl := sizeVas_le ts (k + 1)
      have HTX := Lib.hid (HALL.out k hlt _ (wr.alloc (.cells #[.int .i64 ts[k].kind, .int .i64 ts[k].num, .string ts[k].name, .slice L1 ts[k].labels.length lc1, .slice A1 ts[k].args.length ac1] 27)) ((ht.lift (hb1.mono hbs)).more hb1'.size) (formVas_get HF.out k hlt) (HQ.out k hlt) (by omega) (HT.out.below hb1'))
      have htx := Lib.hid (txtV_len ts[k] (formVas_get HF.out k hlt) (HQ.out k hlt))
      have htk2 : sizeVa ts[k] ≤ 1000 := by omega
      have n0c : (wr.alloc (.cells #[.int .i64 ts[k].kind, .int .i64 ts[k].num, .string ts[k].name, .slice L1 ts[k].labels.length lc1, .slice A1 ts[k].args.length ac1] 27)).cell? ⟨wr.heap.size, 0, none⟩ = some (.int .i64 ts[k].kind) := p1.cell 0
      have n1c : (wr.alloc (.cells #[.int .i64 ts[k].kind, .int .i64 ts[k].num, .string ts[k].name, .slice L1 ts[k].labels.length lc1, .slice A1 ts[k].args.length ac1] 27)).cell? ⟨wr.heap.size, 1, none⟩ = some (.int .i64 ts[k].num) := p1.cell 1
      have n2c : (wr.alloc (.cells #[.int .i64 ts[k].kind, .int .i64 ts[k].num, .string ts[k].name, .slice L1 ts[k].labels.length lc1, .slice A1 ts[k].args.length ac1] 27)).cell? ⟨wr.heap.size, 2, none⟩ = some (.string ts[k].name) := p1.cell 2
      have n3c : (wr.alloc (.cells #[.int .i64 ts[k].kind, .int .i64 ts[k].num, .string ts[k].name, .slice L1 ts[k].labels.length lc1, .slice A1 ts[k].args.length ac1] 27)).cell? ⟨wr.heap.size, 3, none⟩ = some (.slice L1 ts[k].labels.length lc1) := p1.cell 3
      have n4c : (wr.alloc (.cells #[.int .i64 ts[k].kind, .int .i64 ts[k].num, .string ts[k].name, .slice L1 ts[k].labels.length lc1, .slice A1 ts[k].args.length ac1] 27)).cell? ⟨wr.heap.size, 4, none⟩ = some (.slice A1 ts[k].args.length ac1) := p1.cell 4
      have hlen2 : ((bytesOf (piecesV k0 ls ts)).take k).length < ts.length := by rw [List.length_take]; omega
      have HJ := Lib.hid hJ
      have HBB := Lib.hid hb
      have HB1 := Lib.hid hb1
      have HB1' := Lib.hid hb1'
      clear ht htk htl p1 hs1 hJ hb hb1 hb1'
      by_cases h3 : k0 = 3
      · obtain ⟨hll, hlb⟩ := HLAB.out h3
        have hlk : k < ls.length := by omega
        have hlkI : (k : Int) < (ls.length : Int) := by omega
        obtain ⟨bl, ol, rfl, hbl3, hcl⟩ := HL.out k hlk
        have hl4 : ls[k].size ≤ 4 := name_len (labelsB_names hlb _ (List.getElem_mem hlk))
        have hj1 : ¬ 9223372036854775807 < ls[k].size + 1 := by omega
        have hj2 : ¬ 9223372036854775807 < ls[k].size + 1 + (txtV ts[k]).length := by have := htx.out; omega
        have HPK : Hid ((bytesOf (piecesV k0 ls ts))[k]'(by rw [HPL.out]; exact hlt) = (ls[k] ++ ⟨#[61]⟩ ++ ⟨(txtV ts[k]).toArray⟩)) := Lib.hid (by
          simp only [bytesOf, piecesV, if_pos h3, List.getElem_map]
          rw [labE_get ls (txtVs ts) k hlk (by rw [txtVs_map]; simpa using hlt)]
          apply ByteArray.ext
          rw [ByteArray.data_append, ByteArray.data_append]
          simp [txtVs_map])
        have HCL := Lib.hid hcl
        subst h3
        clear hlb hcl
        gi_wp2_with fail
        refine ⟨trivial, ?_⟩
        refine (callsIn_wide.2 HTX.out).mono ?_
        rintro e w3 ⟨rfl, hb3⟩
        have HB3 := Lib.hid (HB1'.out.trans (hb3.mono HB1'.out.size))
        have hbox3 := HB.out.below HB3.out hbl
        have b0 : w3.cell? ⟨Bv, 0, none⟩ = some (.int .i64 3) := hbox3.cell 0
        have b3 : w3.cell? ⟨Bv, 3, none⟩ = some (.slice (some ⟨bl, ol, none⟩) ls.length lc) := hbox3.cell 3
        have hc3 : w3.cell? ⟨bl, ol + k, none⟩ = some (.string ls[k]) := (HB3.out.cell (p := ⟨bl, ol + k, none⟩) hbl3).trans HCL.out
        clear hbox3
        obtain ⟨fn, tmps, assign, body, hy, hR⟩ := HY.out _ (ls[k] ++ ⟨#[61]⟩ ++ ⟨(txtV ts[k]).toArray⟩) wr w3 HJ.out (Turn.of_below (HB1.out.trans (hb3.mono HB1.out.size))) hlen2
        gi_wp2
        refine hR.mono ?_
        rintro e w4 (⟨rfl, hJ4, hb4⟩ | ⟨rfl, hJ4, hb4⟩)
        · gi_wp2
          go_roundw
          case rel => exact ⟨k + 1, by omega, by go_num, by rw [List.take_succ_eq_append_getElem (by rw [HPL.out]; omega), HPK.out]; exact hJ4, HB3.out.trans hb4⟩
          case measure => simp [intOf]; omega
        · gi_wp2
          exact bodyPost_ret (results_none rfl _ _ _) rfl ⟨⟨_, rfl⟩, .inr ⟨_, w4, hJ4, Turn.refl _ _, trivial⟩⟩
      · have hk3 : (k0 == 3) = false := by rw [beq_eq_false_iff_ne]; exact h3
        have HPK : Hid ((bytesOf (piecesV k0 ls ts))[k]'(by rw [HPL.out]; exact hlt) = ⟨(txtV ts[k]).toArray⟩) := Lib.hid (by
          simp only [bytesOf, piecesV, if_neg h3, List.getElem_map, txtVs_map])
        clear h3
        gi_wp2_with fail
        refine ⟨trivial, ?_⟩
        refine (callsIn_wide.2 HTX.out).mono ?_
        rintro e w3 ⟨rfl, hb3⟩
        have HB3 := Lib.hid (HB1'.out.trans (hb3.mono HB1'.out.size))
        have hbox3 := HB.out.below HB3.out hbl
        have b0 : w3.cell? ⟨Bv, 0, none⟩ = some (.int .i64 k0) := hbox3.cell 0
        clear hbox3
        obtain ⟨fn, tmps, assign, body, hy, hR⟩ := HY.out _ (⟨(txtV ts[k]).toArray⟩ : ByteArray) wr w3 HJ.out (Turn.of_below (HB1.out.trans (hb3.mono HB1.out.size))) hlen2
        gi_wp2
        refine hR.mono ?_
        rintro e w4 (⟨rfl, hJ4, hb4⟩ | ⟨rfl, hJ4, hb4⟩)
        · gi_wp2
          go_roundw
          case rel => exact ⟨k + 1, by omega, by go_num, by rw [List.take_succ_eq_append_getElem (by rw [HPL.out]; omega), HPK.out]; exact hJ4, HB3.out.trans hb4⟩
          case measure => simp [intOf]; omega
        · gi_wp2
          exact bodyPost_ret (results_none rfl _ _ _) rfl ⟨⟨_, rfl⟩, .inr ⟨_, w4, hJ4, Turn.refl _ _, trivial⟩⟩
    · have hke : k = ts.length := by omega
      subst hke
      have hltI : ¬ (ts.length : Int) < (ts.length : Int) := by omega
      rw [List.take_of_length_le (by rw [HPL.out]; exact Nat.le_refl _)] at hJ
      gi_wp2
      go_end0
      exact ⟨⟨_, rfl⟩, .inl ⟨_, wr, hJ, Turn.refl _ _, rfl⟩⟩

set_option maxHeartbeats 1000000 in
theorem partTexts_any (v : Value) (k0 n0 : Int) (nm : ByteArray) (L A : Option Addr) (n lc m ac : Nat) (w : World) (hv : v = .agg #[.int .i64 k0, .int .i64 n0, .string nm, .slice L n lc, .slice A m ac]) :
    Calls Tryz.prog 70 #[v] w fun e w' => e = .returned (.func (.func 91) #[] #[.pointer (some ⟨w.heap.size, 0, none⟩)]) ∧ w' = w.alloc (.cells #[.int .i64 k0, .int .i64 n0, .string nm, .slice L n lc, .slice A m ac] 27) := by
  subst hv
  have hmf : ∀ (fn : Fn) (first cap : Array Value) (w : World), (Instr.makeFunc fn first cap).run Tryz.prog w = .ok (.func fn first cap) w := fun _ _ _ _ => rfl
  go_enter Tryz.func70, Tryz.ntmps70
  go_wp2
  go_ret
  exact ⟨rfl, rfl⟩

set_option maxHeartbeats 2000000 in
set_option maxRecDepth 100000 in
theorem textOfParts_any (k0 n0 : Int) (nm : ByteArray) (ls : List ByteArray) (ts : List Va) (hall : ∀ i, (h : i < ts.length) → TextVI ts[i]) (L A : Option Addr) (lc ac : Nat) (w : World)
    (hl : StrsAt w w.heap.size L ls) (ha : VasAt w w.heap.size A ts) (hf : formVas ts = true) (hq : ∀ i, (h : i < ts.length) → numsB ts[i] = true) (hlab : k0 = 3 → ls.length = ts.length ∧ labelsB ls = true) (hsz : sizeVas ts ≤ 1000) (hpl : (bytesOf (piecesV k0 ls ts)).length = ts.length) (hps : sumLens (piecesV k0 ls ts) ≤ 26000) (htab : TabAt w) :
    Calls Tryz.prog 36 #[.agg #[.int .i64 k0, .int .i64 n0, .string nm, .slice L ls.length lc, .slice A ts.length ac]] w (StrIs ⟨(commas (piecesV k0 ls ts)).toArray⟩ w) := by
  obtain ⟨hb0, p0, hs0⟩ := boxes1 w 27 #[.int .i64 k0, .int .i64 n0, .string nm, .slice L ls.length lc, .slice A ts.length ac]
  have hts : ts.length ≤ 1000 := by have := sizeVas_len ts; omega
  have c0 : (w.alloc (.cells #[.int .i64 k0, .int .i64 n0, .string nm, .slice L ls.length lc, .slice A ts.length ac] 27)).cell? ⟨w.heap.size, 0, none⟩ = some (.int .i64 k0) := p0.cell 0
  have c1 : (w.alloc (.cells #[.int .i64 k0, .int .i64 n0, .string nm, .slice L ls.length lc, .slice A ts.length ac] 27)).cell? ⟨w.heap.size, 1, none⟩ = some (.int .i64 n0) := p0.cell 1
  have c2 : (w.alloc (.cells #[.int .i64 k0, .int .i64 n0, .string nm, .slice L ls.length lc, .slice A ts.length ac] 27)).cell? ⟨w.heap.size, 2, none⟩ = some (.string nm) := p0.cell 2
  have c3 : (w.alloc (.cells #[.int .i64 k0, .int .i64 n0, .string nm, .slice L ls.length lc, .slice A ts.length ac] 27)).cell? ⟨w.heap.size, 3, none⟩ = some (.slice L ls.length lc) := p0.cell 3
  have c4 : (w.alloc (.cells #[.int .i64 k0, .int .i64 n0, .string nm, .slice L ls.length lc, .slice A ts.length ac] 27)).cell? ⟨w.heap.size, 4, none⟩ = some (.slice A ts.length ac) := p0.cell 4
  have HP := Lib.hid (fun W => partTexts_any _ k0 n0 nm L A ls.length lc ts.length ac W rfl)
  have hb0' := hb0
  have hl0 := (hl.up' hb0)
  have ha0 := ha.up hb0
  have ht0 := htab.below hb0
  have HS0 := Lib.hid hs0
  clear hl ha htab hs0
  go_enter Tryz.func36, Tryz.ntmps36
  go_wp2_with fail
  clear c0 c1 c2 c3 c4
  generalize w.alloc (.cells #[.int .i64 k0, .int .i64 n0, .string nm, .slice L ls.length lc, .slice A ts.length ac] 27) = w0 at *
  refine (HP.out w0).mono ?_
  rintro e w1 ⟨rfl, rfl⟩
  obtain ⟨hb1, p1, hs1⟩ := boxes1 w0 27 #[.int .i64 k0, .int .i64 n0, .string nm, .slice L ls.length lc, .slice A ts.length ac]
  have hseq := partTexts_seq k0 n0 nm ls ts hall L A lc ac w0.heap.size _ p1 (hl0.up' hb1) (ha0.up hb1) hf hq hlab hsz hpl (ht0.below hb1)
  have HC := Lib.hid (collect_any 91 _ (enters_of Tryz.func91 (by kernel_rfl) rfl) _ ts.length (by omega) _ (fun xs C C' h _ => h) hseq)
  have hb01 := hb0.trans (hb1.mono hb0.size)
  have HPL := Lib.hid hpl
  have HPS := Lib.hid hps
  clear hseq hall hf hq hlab hl0 ha0 ht0 hb1 p1 hs1 HP hpl hps p0
  go_wp2_with fail
  generalize w0.alloc (.cells #[.int .i64 k0, .int .i64 n0, .string nm, .slice L ls.length lc, .slice A ts.length ac] 27) = w2 at *
  refine HC.out.mono ?_
  rintro e w3 ⟨v, ss, rfl, rfl, hln, hown, hb3⟩
  obtain ⟨A3, c3, rfl, hst⟩ := own_strings hown
  have hb03 := hb01.trans (hb3.mono hb01.size)
  have hpn := HPL.out
  have HJ := implJoin_any A3 c3 (bytesOf (piecesV k0 ls ts)) ⟨#[44]⟩ w3 hst (by omega) (by rw [bytesOf_sum]; have := HPS.out; omega) (by decide)
  have hjc : joinTo (bytesOf (piecesV k0 ls ts)) ⟨#[44]⟩ (bytesOf (piecesV k0 ls ts)).length = commas (piecesV k0 ls ts) := by rw [bytesOf_len, join_commas _ _ (Nat.le_refl _), List.take_of_length_le (Nat.le_refl _)]
  rw [hjc] at HJ
  have HJ2 := Lib.hid HJ
  clear HJ hown hst hjc HC hpn hln
  go_wp2_with fail
  refine HJ2.out.mono ?_
  rintro e w5 ⟨rfl, hb5⟩
  go_wp2
  go_ret
  exact ⟨rfl, hb03.trans (hb5.mono hb03.size)⟩

set_option maxHeartbeats 8000000 in
set_option maxRecDepth 100000 in
theorem implTextV_of (k0 n0 : Int) (nm : ByteArray) (ls : List ByteArray) (ts : List Va) (hall : ∀ i, (h : i < ts.length) → TextVI ts[i]) : TextVI (.mk k0 n0 nm ls ts) := by
  intro v w hv hf hq hsz htab
  have htx : txtV (.mk k0 n0 nm ls ts) = nodeTxtV k0 n0 nm ls (txtVs ts) := by rw [txtV]
  rw [formVa, Bool.and_eq_true] at hf
  obtain ⟨hq1, hq2⟩ := numsB_of _ hq
  simp only [Va.num, Va.args] at hq1 hq2
  obtain ⟨hsum, hlts⟩ := txtVs_sum ts fun i hi => txtV_len ts[i] (formVas_get hf.1 i hi) (hq2 i hi)
  have hsz2 : 1 + sizeVas ts ≤ 1000 := by rw [sizeVa] at hsz; exact hsz
  have hkind := nodeVB_kind hf.2
  have hpl : (bytesOf (piecesV k0 ls ts)).length = ts.length := by
    rw [bytesOf_len]
    unfold piecesV
    split
    · rcases hkind with ⟨h1, _⟩ | ⟨h1, _⟩ | ⟨h1, h2, _⟩ | ⟨h1, _⟩ | h1
      · omega
      · omega
      · rw [labE_same _ _ (by omega)]
        exact h2
      · omega
      · omega
    · exact hlts
  have hps : sumLens (piecesV k0 ls ts) ≤ 26000 := by
    unfold piecesV
    split
    · rcases hkind with ⟨h1, _⟩ | ⟨h1, _⟩ | ⟨h1, h2, h3⟩ | ⟨h1, _⟩ | h1
      · omega
      · omega
      · have := (labE_sum ls (txtVs ts) fun l hl => name_len (labelsB_names h3 l hl)).1
        omega
      · omega
      · omega
    · omega
  have hlab : k0 = 3 → ls.length = ts.length ∧ labelsB ls = true := fun h => by
    rcases hkind with ⟨h1, _⟩ | ⟨h1, _⟩ | ⟨h1, h2⟩ | ⟨h1, _⟩ | h1
    · omega
    · omega
    · exact h2
    · omega
    · omega
  obtain ⟨L, lc, A, ac, rfl, hnm, hn, hz, hl, ha⟩ := hv.open
  simp only [Va.kind, Va.num, Va.name, Va.labels, Va.args] at *
  obtain ⟨hb0, p0, hs0⟩ := boxes1 w 27 #[.int .i64 k0, .int .i64 n0, .string nm, .slice L ls.length lc, .slice A ts.length ac]
  have ht0 := htab.below hb0
  have hl0 := hl.up' hb0
  have ha0 := ha.up hb0
  have HTX := Lib.hid htx
  have HPA := Lib.hid (textOfParts_any k0 n0 nm ls ts hall L A lc ac _ hl0 ha0 hf.1 hq2 hlab (by omega) hpl hps ht0)
  have HFI := Lib.hid (fun W (hb : Below w.heap.size w W) => implFormatInt_any n0 W hq1.1 (by have := hq1.2; omega) (htab.below hb).1)
  have HBO := Lib.hid (fun W => textOfBool_any n0 W)
  have hm := ha.1
  have HALL := Lib.hid hall
  have HF := Lib.hid hf.1
  have HQ := Lib.hid hq2
  have HPS := Lib.hid hps
  have hpn := hpl
  rw [bytesOf_len] at hpn
  have HPN := Lib.hid hpn
  have HT0 := Lib.hid ht0
  have c0 : (w.alloc (.cells #[.int .i64 k0, .int .i64 n0, .string nm, .slice L ls.length lc, .slice A ts.length ac] 27)).cell? ⟨w.heap.size, 0, none⟩ = some (.int .i64 k0) := p0.cell 0
  have c1 : (w.alloc (.cells #[.int .i64 k0, .int .i64 n0, .string nm, .slice L ls.length lc, .slice A ts.length ac] 27)).cell? ⟨w.heap.size, 1, none⟩ = some (.int .i64 n0) := p0.cell 1
  have c2 : (w.alloc (.cells #[.int .i64 k0, .int .i64 n0, .string nm, .slice L ls.length lc, .slice A ts.length ac] 27)).cell? ⟨w.heap.size, 2, none⟩ = some (.string nm) := p0.cell 2
  have c3 : (w.alloc (.cells #[.int .i64 k0, .int .i64 n0, .string nm, .slice L ls.length lc, .slice A ts.length ac] 27)).cell? ⟨w.heap.size, 3, none⟩ = some (.slice L ls.length lc) := p0.cell 3
  have c4 : (w.alloc (.cells #[.int .i64 k0, .int .i64 n0, .string nm, .slice L ls.length lc, .slice A ts.length ac] 27)).cell? ⟨w.heap.size, 4, none⟩ = some (.slice A ts.length ac) := p0.cell 4
  clear hall hv hl ha hz hf hq hq2 hsum hlts htx hpl hps hlab htab ht0 hq1 hnm
  go_enter Tryz.func16, Tryz.ntmps16
  rcases hkind with ⟨rfl, hm0⟩ | ⟨rfl, hm0⟩ | ⟨rfl, hll, hlb⟩ | ⟨rfl, hm1, hnm⟩ | rfl
  · clear hm0
    go_wp2_with fail
    clear c0 c1 c2 c3 c4
    generalize w.alloc (.cells #[.int .i64 1, .int .i64 n0, .string nm, .slice L ls.length lc, .slice A ts.length ac] 27) = w0 at *
    refine (HFI.out w0 hb0).mono ?_
    rintro e w1 ⟨rfl, hb1⟩
    go_wp2
    go_ret
    exact ⟨by rw [HTX.out]; rfl, hb0.trans (hb1.mono hb0.size)⟩
  · obtain ⟨bb, hbb⟩ : ∃ bb : UInt8, (if n0 = 1 then 116 else 102) = bb := ⟨_, rfl⟩
    have HBO : Hid (∀ W, Calls Tryz.prog 35 #[.int .i64 n0] W (StrIs ⟨[35, bb].toArray⟩ W)) := Lib.hid (fun W => by rw [← hbb]; exact HBO.out W)
    have HT2 : Hid (txtV (.mk 2 n0 nm ls ts) = [35, bb]) := Lib.hid (by rw [HTX.out, ← hbb]; rfl)
    clear hm0 hbb
    go_wp2_with fail
    clear c0 c1 c2 c3 c4
    generalize w.alloc (.cells #[.int .i64 2, .int .i64 n0, .string nm, .slice L ls.length lc, .slice A ts.length ac] 27) = w0 at *
    refine (HBO.out w0).mono ?_
    rintro e w1 ⟨rfl, hb1⟩
    go_wp2
    go_ret
    exact ⟨by rw [HT2.out]; rfl, hb0.trans (hb1.mono hb0.size)⟩
  · have HE : Hid (txtV (.mk 3 n0 nm ls ts) = 123 :: (commas (piecesV 3 ls ts) ++ [125])) := Lib.hid (by rw [HTX.out]; rfl)
    have hJl := commas_len (piecesV 3 ls ts)
    have hJp := HPS.out
    have hJn := HPN.out
    have htl := sizeVas_len ts
    generalize commas (piecesV 3 ls ts) = J at *
    have hj1 : ¬ 9223372036854775807 < 1 + J.length := by omega
    have hj2 : ¬ 9223372036854775807 < 1 + J.length + 1 := by omega
    clear hll hlb hJl hJp hJn htl
    go_wp2_with fail
    clear c0 c1 c2 c3 c4
    generalize w.alloc (.cells #[.int .i64 3, .int .i64 n0, .string nm, .slice L ls.length lc, .slice A ts.length ac] 27) = w0 at *
    refine HPA.out.mono ?_
    rintro e w1 ⟨rfl, hb1⟩
    go_wp2
    go_ret
    exact ⟨by rw [HE.out, byte3]; rfl, hb0.trans (hb1.mono hb0.size)⟩
  · have h0t : 0 < ts.length := by omega
    have HE : Hid (txtV (.mk 4 n0 nm ls ts) = (60 :: (nm.data.toList ++ (32 : UInt8) :: (txtV (ts[0]'h0t) ++ ([62] : List UInt8))) : List UInt8)) := Lib.hid (by
      rw [HTX.out, txtVs_map]
      obtain ⟨a, r, rfl⟩ : ∃ a r, ts = a :: r := by
        cases ts with
        | nil => simp at h0t
        | cons a r => exact ⟨a, r, rfl⟩
      rfl)
    have hnz := name_len hnm
    have htl := txtV_len ts[0] (formVas_get HF.out 0 h0t) (HQ.out 0 h0t)
    have hst := sizeVas_take ts 0 h0t
    have hst2 := sizeVas_le ts (0 + 1)
    have htz : sizeVa ts[0] ≤ 1000 := by omega
    obtain ⟨b, off, M, mc, C, cc, rfl, hbw, e0, e1, e2, e3, e4, htv⟩ := ha0.elem 0 h0t
    rw [Nat.zero_mul, Nat.add_zero] at e0 e1 e2 e3 e4
    have hpw := p0.lt
    have h0tI : (0 : Int) < (ts.length : Int) := by omega
    have HT := Lib.hid (HALL.out 0 h0t _ _ (htv.up (Below.refl _ _).drew) (formVas_get HF.out 0 h0t) (HQ.out 0 h0t) htz (HT0.out.below (Below.refl _ _).drew))
    have hj0 : ¬ 9223372036854775807 < 1 + nm.size := by omega
    have hj1 : ¬ 9223372036854775807 < 1 + nm.size + 1 := by omega
    have hj2 : ¬ 9223372036854775807 < 1 + nm.size + 1 + (txtV ts[0]).length := by omega
    have hj3 : ¬ 9223372036854775807 < 1 + nm.size + 1 + (txtV ts[0]).length + 1 := by omega
    clear hm1 hnm hnz htl hst hst2 htz htv ha0 hl0
    generalize txtV ts[0] = J at *
    go_wp2_with fail
    generalize w.alloc (.cells #[.int .i64 4, .int .i64 n0, .string nm, .slice L ls.length lc, .slice (some ⟨b, off, none⟩) ts.length ac] 27) = w0 at *
    go_region_held3 (fun x => x.cell? ⟨w.heap.size, 2, none⟩ = some (.string nm) ∧ x.cell? ⟨w.heap.size, 4, none⟩ = some (.slice (some ⟨b, off, none⟩) ts.length ac) ∧ x.cell? ⟨b, off, none⟩ = some (.int .i64 ts[0].kind) ∧ x.cell? ⟨b, off + 1, none⟩ = some (.int .i64 ts[0].num) ∧ x.cell? ⟨b, off + 2, none⟩ = some (.string ts[0].name) ∧ x.cell? ⟨b, off + 3, none⟩ = some (.slice M ts[0].labels.length mc) ∧ x.cell? ⟨b, off + 4, none⟩ = some (.slice C ts[0].args.length cc) ∧ Below w0.heap.size w0 x) ((first | exact ⟨c2, c4, e0, e1, e2, e3, e4, (Below.refl _ _).drew⟩ | exact ⟨y0, y1, y2, y3, y4, y5, y6, k6⟩))
      (first | (go_at_call 16; refine HT.out.mono ?_; rintro e w1 ⟨rfl, hb1⟩; have k6 := (Below.refl w0.heap.size w0).drew.trans hb1; have y0 := (k6.cell (p := ⟨w.heap.size, 2, none⟩) hpw).trans c2; have y1 := (k6.cell (p := ⟨w.heap.size, 4, none⟩) hpw).trans c4; have y2 := (k6.cell (p := ⟨b, off, none⟩) hbw).trans e0; have y3 := (k6.cell (p := ⟨b, off + 1, none⟩) hbw).trans e1; have y4 := (k6.cell (p := ⟨b, off + 2, none⟩) hbw).trans e2; have y5 := (k6.cell (p := ⟨b, off + 3, none⟩) hbw).trans e3; have y6 := (k6.cell (p := ⟨b, off + 4, none⟩) hbw).trans e4))
    go_wp2
    go_ret
    exact ⟨by rw [HE.out, byte5]; rfl, hb0.trans (k6.mono hb0.size)⟩
  · have HE : Hid (txtV (.mk 5 n0 nm ls ts) = 91 :: (commas (piecesV 5 ls ts) ++ [93])) := Lib.hid (by rw [HTX.out]; rfl)
    have hJl := commas_len (piecesV 5 ls ts)
    have hJp := HPS.out
    have hJn := HPN.out
    have htl := sizeVas_len ts
    generalize commas (piecesV 5 ls ts) = J at *
    have hj1 : ¬ 9223372036854775807 < 1 + J.length := by omega
    have hj2 : ¬ 9223372036854775807 < 1 + J.length + 1 := by omega
    clear hJl hJp hJn htl
    go_wp2_with fail
    clear c0 c1 c2 c3 c4
    generalize w.alloc (.cells #[.int .i64 5, .int .i64 n0, .string nm, .slice L ls.length lc, .slice A ts.length ac] 27) = w0 at *
    refine HPA.out.mono ?_
    rintro e w1 ⟨rfl, hb1⟩
    go_wp2
    go_ret
    exact ⟨by rw [HE.out, byte3]; rfl, hb0.trans (hb1.mono hb0.size)⟩

theorem implTextV_any (t : Va) : TextVI t := by
  induction t using Va.ind with
  | h k n nm ls ts ih => exact implTextV_of k n nm ls ts ih

set_option maxHeartbeats 1000000 in
theorem implFormatV_any (t : Va) (v : Value) (w : World) (hv : OwnV w v t) (hF : FormsAt w) (htab : TabAt w) (hq : numsB t = true) (hsz : szVa t ≤ 1048576) : Calls Tryz.prog 6 #[v] w (StrIs (formatVB t) w) := by
  have HX : valueB t = true → Hid (∀ W, Below w.heap.size w W → Calls Tryz.prog 16 #[v] W (StrIs ⟨(txtV t).toArray⟩ W)) := fun h => Lib.hid fun W hb => by
    unfold valueB at h
    simp only [Bool.and_eq_true, decide_eq_true_eq] at h
    exact implTextV_any t v W (hv.here.up hb) h.2 hq (by omega) (htab.below hb)
  obtain ⟨L, lc, A, ac, rfl, _⟩ := hv.open
  obtain ⟨hb0, p0, hs0⟩ := boxes1 w 27 #[.int .i64 t.kind, .int .i64 t.num, .string t.name, .slice L t.labels.length lc, .slice A t.args.length ac]
  have HV := Lib.hid (implIsValue_any t _ _ (hv.up hb0) (hF.below hb0) hq hsz)
  have c0 : (w.alloc (.cells #[.int .i64 t.kind, .int .i64 t.num, .string t.name, .slice L t.labels.length lc, .slice A t.args.length ac] 27)).cell? ⟨w.heap.size, 0, none⟩ = some (.int .i64 t.kind) := p0.cell 0
  have c1 : (w.alloc (.cells #[.int .i64 t.kind, .int .i64 t.num, .string t.name, .slice L t.labels.length lc, .slice A t.args.length ac] 27)).cell? ⟨w.heap.size, 1, none⟩ = some (.int .i64 t.num) := p0.cell 1
  have c2 : (w.alloc (.cells #[.int .i64 t.kind, .int .i64 t.num, .string t.name, .slice L t.labels.length lc, .slice A t.args.length ac] 27)).cell? ⟨w.heap.size, 2, none⟩ = some (.string t.name) := p0.cell 2
  have c3 : (w.alloc (.cells #[.int .i64 t.kind, .int .i64 t.num, .string t.name, .slice L t.labels.length lc, .slice A t.args.length ac] 27)).cell? ⟨w.heap.size, 3, none⟩ = some (.slice L t.labels.length lc) := p0.cell 3
  have c4 : (w.alloc (.cells #[.int .i64 t.kind, .int .i64 t.num, .string t.name, .slice L t.labels.length lc, .slice A t.args.length ac] 27)).cell? ⟨w.heap.size, 4, none⟩ = some (.slice A t.args.length ac) := p0.cell 4
  clear hv hs0 htab hF
  cases hvb : valueB t
  · rw [hvb] at HV
    have HE : Hid (formatVB t = ⟨#[]⟩) := Lib.hid (by unfold formatVB; rw [hvb]; rfl)
    clear HX hvb
    go_enter Tryz.func6, Tryz.ntmps6
    go_wp2_with fail
    generalize w.alloc (.cells #[.int .i64 t.kind, .int .i64 t.num, .string t.name, .slice L t.labels.length lc, .slice A t.args.length ac] 27) = w0 at *
    refine HV.out.mono ?_
    rintro e w1 ⟨rfl, hb1⟩
    go_wp2
    go_ret
    exact ⟨by rw [HE.out]; rfl, hb0.trans (hb1.mono hb0.size)⟩
  · rw [hvb] at HV
    have HE : Hid (formatVB t = ⟨(txtV t).toArray⟩) := Lib.hid (by unfold formatVB; rw [hvb]; rfl)
    have HX2 := HX hvb
    clear HX hvb
    go_enter Tryz.func6, Tryz.ntmps6
    go_wp2_with fail
    generalize w.alloc (.cells #[.int .i64 t.kind, .int .i64 t.num, .string t.name, .slice L t.labels.length lc, .slice A t.args.length ac] 27) = w0 at *
    refine HV.out.mono ?_
    rintro e w1 ⟨rfl, hb1⟩
    have hb01 := hb0.trans (hb1.mono hb0.size)
    have HX3 := Lib.hid (HX2.out w1 hb01)
    have p1 := p0.below hb1 p0.lt
    have d0 : w1.cell? ⟨w.heap.size, 0, none⟩ = some (.int .i64 t.kind) := p1.cell 0
    have d1 : w1.cell? ⟨w.heap.size, 1, none⟩ = some (.int .i64 t.num) := p1.cell 1
    have d2 : w1.cell? ⟨w.heap.size, 2, none⟩ = some (.string t.name) := p1.cell 2
    have d3 : w1.cell? ⟨w.heap.size, 3, none⟩ = some (.slice L t.labels.length lc) := p1.cell 3
    have d4 : w1.cell? ⟨w.heap.size, 4, none⟩ = some (.slice A t.args.length ac) := p1.cell 4
    clear p1 c0 c1 c2 c3 c4
    go_wp2_with fail
    refine HX3.out.mono ?_
    rintro e w2 ⟨rfl, hb2⟩
    go_wp2
    go_ret
    exact ⟨by rw [HE.out]; rfl, hb01.trans (hb2.mono hb01.size)⟩

end Go.Proofs.YtceclhndagoddaaGreatDoor
