/- impl.FormatType. -/
import Derived.Test.YtmacbkcjeamaeaaSpecText
import Derived.Test.YtmacbkcjeamaeaaImplValid
import Derived.Test.YtmacbkcjeamaeaaImplJoin
namespace Go.Proofs.Ytmacbkcjeamaeaa
open Go.RowKit

theorem tf_intForm_intForm (x : Value) (w : World) : (Instr.typeAssert (.iface 94 x) 79 94 true).run Try.prog w = .ok (.tuple #[x, .bool true]) w := by kernel_rfl
theorem tf_boolForm_intForm (x : Value) (w : World) : (Instr.typeAssert (.iface 95 x) 79 94 true).run Try.prog w = .ok (.tuple #[.agg #[], .bool false]) w := by kernel_rfl
theorem tf_boolForm_boolForm (x : Value) (w : World) : (Instr.typeAssert (.iface 95 x) 79 95 true).run Try.prog w = .ok (.tuple #[x, .bool true]) w := by kernel_rfl
theorem tf_recForm_intForm (x : Value) (w : World) : (Instr.typeAssert (.iface 82 x) 79 94 true).run Try.prog w = .ok (.tuple #[.agg #[], .bool false]) w := by kernel_rfl
theorem tf_recForm_boolForm (x : Value) (w : World) : (Instr.typeAssert (.iface 82 x) 79 95 true).run Try.prog w = .ok (.tuple #[.agg #[], .bool false]) w := by kernel_rfl
theorem tf_recForm_recForm (x : Value) (w : World) : (Instr.typeAssert (.iface 82 x) 79 82 true).run Try.prog w = .ok (.tuple #[x, .bool true]) w := by kernel_rfl
theorem tf_sumForm_intForm (x : Value) (w : World) : (Instr.typeAssert (.iface 84 x) 79 94 true).run Try.prog w = .ok (.tuple #[.agg #[], .bool false]) w := by kernel_rfl
theorem tf_sumForm_boolForm (x : Value) (w : World) : (Instr.typeAssert (.iface 84 x) 79 95 true).run Try.prog w = .ok (.tuple #[.agg #[], .bool false]) w := by kernel_rfl
theorem tf_sumForm_recForm (x : Value) (w : World) : (Instr.typeAssert (.iface 84 x) 79 82 true).run Try.prog w = .ok (.tuple #[.agg #[.slice none 0 0, .slice none 0 0], .bool false]) w := by kernel_rfl
theorem tf_sumForm_sumForm (x : Value) (w : World) : (Instr.typeAssert (.iface 84 x) 79 84 true).run Try.prog w = .ok (.tuple #[x, .bool true]) w := by kernel_rfl
theorem tf_listForm_intForm (x : Value) (w : World) : (Instr.typeAssert (.iface 98 x) 79 94 true).run Try.prog w = .ok (.tuple #[.agg #[], .bool false]) w := by kernel_rfl
theorem tf_listForm_boolForm (x : Value) (w : World) : (Instr.typeAssert (.iface 98 x) 79 95 true).run Try.prog w = .ok (.tuple #[.agg #[], .bool false]) w := by kernel_rfl
theorem tf_listForm_recForm (x : Value) (w : World) : (Instr.typeAssert (.iface 98 x) 79 82 true).run Try.prog w = .ok (.tuple #[.agg #[.slice none 0 0, .slice none 0 0], .bool false]) w := by kernel_rfl
theorem tf_listForm_sumForm (x : Value) (w : World) : (Instr.typeAssert (.iface 98 x) 79 84 true).run Try.prog w = .ok (.tuple #[.agg #[.slice none 0 0, .slice none 0 0], .bool false]) w := by kernel_rfl
theorem tf_listForm_listForm (x : Value) (w : World) : (Instr.typeAssert (.iface 98 x) 79 98 true).run Try.prog w = .ok (.tuple #[x, .bool true]) w := by kernel_rfl

set_option maxHeartbeats 4000000 in
set_option maxRecDepth 100000 in
theorem implLabelled_of (ls : List ByteArray) (ts : List Ty) (hall : ∀ i, (h : i < ts.length) → TextOne 36 ts[i]) (L A : Option Addr) (lc ac : Nat) (w : World) (hl : StrsAt w w.heap.size L ls) (ha : TysAt w w.heap.size A ts)
    (hlen : ls.length = ts.length) (hlab : labelsB ls = true) (hf : formTys ts = true) (hsz : sizeTys ts ≤ 1000) :
    Calls Try.prog 71 #[.slice L ls.length lc, .slice A ts.length ac] w (StrIs ⟨(commas (lab ls (txts ts))).toArray⟩ w) := by
  obtain ⟨i0, hi, hz0, hz1, hz2⟩ := info_parts infoString
  obtain ⟨hsum, hlts⟩ := txts_sum ts fun i hi => txt_len ts[i] (formTys_get hf i hi)
  have hnames : ∀ l ∈ ls, l.size ≤ 4 := fun l hl => name_len (labelsB_names hlab l hl)
  have hpl : (bytesOf (lab ls (txts ts))).length = ls.length := by rw [bytesOf_len, lab_same _ _ (by omega)]
  have hps : sumLens (lab ls (txts ts)) ≤ 8000 := by
    have := (lab_sum ls (txts ts) hnames).1
    omega
  have htk3 : ts.length ≤ 1000 := by have := sizeTys_len ts; omega
  have hm := ha.1
  have HF := Lib.hid hf
  have HPL := Lib.hid hpl
  have HPS := Lib.hid hps
  have HALL := Lib.hid hall
  have HNM := Lib.hid hnames
  have HLEN := Lib.hid hlen
  clear hall hf hpl hps hnames hsum hlts hlab hlen
  go_enter Try.func71, Try.ntmps71
  go_wp2
  go_loopw [5, 10] (fun a i wr => ∃ k : Nat, k ≤ ls.length ∧ i = .int .i64 k ∧ wr.ownsRow w.heap.size 9 1 a k (strVals ((bytesOf (lab ls (txts ts))).take k)) ∧ Below w.heap.size w wr) (fun _ i _ => ls.length - (intOf i).toNat)
  case atStart => exact ⟨0, Nat.zero_le _, rfl, World.ownsRow_nil _ _ _ 1, Below.refl _ _⟩
  case round =>
    obtain ⟨k, hk, rfl, hown, hb⟩ := hrel
    have hbs := hb.size
    by_cases hlt : k < ls.length
    · have hltI : (k : Int) < (ls.length : Int) := by omega
      have hkt : k < ts.length := by have := HLEN.out; omega
      have hktI : (k : Int) < (ts.length : Int) := by omega
      obtain ⟨b, off, L1, lc1, A1, ac1, rfl, hbl, q0, q1, q2, _, _, _, _, ht⟩ := (ha.below hb).elem k hkt
      obtain ⟨bl, ol, rfl, hbl2, hcl⟩ := (hl.below hb) k hlt
      have htk := sizeTys_take ts k hkt
      have htl := sizeTys_le ts (k + 1)
      have htx := Lib.hid (txt_len ts[k] (formTys_get HF.out k hkt))
      have htk2 : sizeTy ts[k] ≤ 1000 := by omega
      have HT := Lib.hid (HALL.out k hkt _ wr (ht.more (by omega)) (formTys_get HF.out k hkt) (by omega))
      have hl4 : ls[k].size ≤ 4 := HNM.out _ (List.getElem_mem hlt)
      have hj1 : ¬ 9223372036854775807 < ls[k].size + 1 := by omega
      have hj2 : ¬ 9223372036854775807 < ls[k].size + 1 + (txt ts[k]).length := by have := htx.out; omega
      have HPK : Hid ((bytesOf (lab ls (txts ts)))[k]'(by rw [HPL.out]; exact hlt) = (ls[k] ++ ⟨#[58]⟩ ++ ⟨(txt ts[k]).toArray⟩)) := Lib.hid (by
        simp only [bytesOf, List.getElem_map]
        rw [lab_get ls (txts ts) k hlt (by rw [txts_map]; simpa using hkt)]
        apply ByteArray.ext
        rw [ByteArray.data_append, ByteArray.data_append]
        simp [txts_map])
      clear ht htk htl
      go_wp2_with fail
      refine HT.out.mono ?_
      rintro e w3 ⟨rfl, hb3'⟩
      have hb3 := hb.trans (hb3'.mono hbs)
      have HOWN := Lib.hid (own_keep1 (w' := w3) hown (fun g hg => hb3'.block g (hown.lt g hg).2))
      have hs3 := hb3.size
      clear hown q0 q1 q2 hb3'
      go_wp2_with (at_builtin; refine wpList_append_own _ rfl (.tmp 15) (.tmp 24) _ rfl w.heap.size 9 i0 (.string ⟨#[]⟩) 1 16 Try.underlying24 hi hz0 hz1 hz2 rfl (by decide) _ _ _ rfl (HOWN.out.alloc _) ⟨w3.heap.size, 0, none⟩ 1 1 [.string (ls[k] ++ ⟨#[58]⟩ ++ ⟨(txt ts[k]).toArray⟩)] rfl rfl (cellNew w3 9 _) (by intro u hu; simp at hu; subst hu; rfl) (by unfold maxLen; omega) (by omega) (by have := hb3.size; simp; omega) ?_; intro v1 w4 hown1 hg1 _)
      go_roundw
      case rel => exact ⟨k + 1, by omega, by go_num, by rw [show strVals ((bytesOf (lab ls (txts ts))).take (k + 1)) = strVals ((bytesOf (lab ls (txts ts))).take k) ++ [.string (ls[k] ++ ⟨#[58]⟩ ++ ⟨(txt ts[k]).toArray⟩)] from by rw [List.take_succ_eq_append_getElem (by rw [HPL.out]; omega), HPK.out]; simp [strVals]]; exact hown1, (hb3.alloc (by omega) _).grown hg1 (by have := hb3.size; simp; omega) (fun q hq => by have := (HOWN.out.lt q hq).1; omega)⟩
      case measure => simp [intOf]; omega
    · have hke : k = ls.length := by omega
      subst hke
      have hltI : ¬ (ls.length : Int) < (ls.length : Int) := by omega
      rw [List.take_of_length_le (by rw [HPL.out]; exact Nat.le_refl _)] at hown
      obtain ⟨A3, c3, rfl, hst⟩ := own_strings hown
      have hpn : (bytesOf (lab ls (txts ts))).length = ls.length := HPL.out
      have HJ := implJoin_any A3 c3 (bytesOf (lab ls (txts ts))) ⟨#[44]⟩ wr hst (by have := HLEN.out; omega) (by rw [bytesOf_sum]; have := HPS.out; omega) (by decide)
      have hjc : joinTo (bytesOf (lab ls (txts ts))) ⟨#[44]⟩ ls.length = commas (lab ls (txts ts)) := by rw [← hpn, bytesOf_len, join_commas _ _ (Nat.le_refl _), List.take_of_length_le (Nat.le_refl _)]
      rw [hpn, hjc] at HJ
      have HJ2 := Lib.hid HJ
      clear HJ hown hst
      go_wp2_with fail
      refine HJ2.out.mono ?_
      rintro e w5 ⟨rfl, hb5⟩
      go_wp2
      go_ret
      exact ⟨rfl, hb.trans (hb5.mono hb.size)⟩

set_option maxHeartbeats 4000000 in
set_option maxRecDepth 100000 in
theorem implText_of (k0 : Int) (ls : List ByteArray) (ts : List Ty) (hall : ∀ i, (h : i < ts.length) → TextOne 36 ts[i]) : TextOne 36 (.mk k0 ls ts) := by
  intro v w hv hf hsz
  have htx : txt (.mk k0 ls ts) = nodeTxt k0 ls (txts ts) := by rw [txt]
  have htlen := txt_len (.mk k0 ls ts) hf
  rw [formTy, Bool.and_eq_true] at hf
  have hsz2 : 1 + sizeTys ts ≤ 1000 := by rw [sizeTy] at hsz; exact hsz
  have HF := Lib.hid hf.1
  have hnode := hf.2
  have HLAB := Lib.hid (fun hlen hlab W L A lc ac h1 h2 => implLabelled_of ls ts hall L A lc ac W h1 h2 hlen hlab hf.1 (by omega))
  have HTX := Lib.hid htx
  have HALL := Lib.hid hall
  obtain ⟨L, lc, A, ac, rfl, hn, hz, hl, ha⟩ := hv.open
  have hv1 := hv
  simp only [Ty.kind, Ty.labels, Ty.args] at *
  obtain ⟨hb0, p0, hs0⟩ := boxes1 w 27 #[.int .i64 k0, .slice L ls.length lc, .slice A ts.length ac]
  have hnl : ls.length < maxLen := by
    unfold nodeB at hnode
    unfold maxLen
    have := sizeTys_len ts
    split at hnode
    · simp only [Bool.and_eq_true, decide_eq_true_eq] at hnode
      omega
    · split at hnode
      · simp only [Bool.and_eq_true, decide_eq_true_eq] at hnode
        omega
      · split at hnode
        · simp only [Bool.and_eq_true, decide_eq_true_eq] at hnode
          omega
        · cases hnode
  have HV := Lib.hid (formOf_any k0 ls ts L A lc ac _ (hv1.up hb0) hnl)
  have hl0 := hl.up' hb0
  have ha0 := ha.up hb0
  have HN := Lib.hid hnode
  clear hall hv hv1 hz hl ha hf hnode htx hs0 p0
  go_enter Try.func36, Try.ntmps36
  go_wp2_with fail
  generalize w.alloc (.cells #[.int .i64 k0, .slice L ls.length lc, .slice A ts.length ac] 27) = w0 at *
  refine HV.out.mono ?_
  rintro e w1 ⟨fv, rfl, hfv, hb1⟩
  have hb1' := hb0.trans (hb1.mono hb0.size)
  have hl1 := Lib.hid (hl0.up' hb1)
  have ha1 := Lib.hid (ha0.up hb1)
  have HB1 := Lib.hid hb1
  clear HV hb0 hb1 hl0 ha0
  rcases hfv with ⟨h0, _⟩ | ⟨_, hfv⟩
  · rw [HN.out] at h0
    cases h0
  · rcases hfv with ⟨rfl, hts, rfl⟩ | ⟨rfl, hts, rfl⟩ | ⟨rfl, rfl⟩ | ⟨rfl, rfl⟩ | ⟨rfl, a, b, c, t, rfl, ht, rfl⟩
    · skip
      have haintForm := tf_intForm_intForm
      go_wp2
      go_ret
      exact ⟨by rw [HTX.out]; rfl, (hb1'.alloc hb1'.size _)⟩
    · skip
      have haintForm := tf_boolForm_intForm
      have haboolForm := tf_boolForm_boolForm
      go_wp2
      go_ret
      exact ⟨by rw [HTX.out]; rfl, (hb1'.alloc hb1'.size _)⟩
    · skip
      have haintForm := tf_recForm_intForm
      have haboolForm := tf_recForm_boolForm
      have harecForm := tf_recForm_recForm
      have hnode := HN.out
      rw [node3 _ _ _ (by omega)] at hnode
      simp only [Bool.and_eq_true, decide_eq_true_eq] at hnode
      have hb2 := (Below.refl w1.heap.size w1).alloc (Nat.le_refl _) (.cells #[.slice L ls.length lc, .slice A ts.length ac] 82)
      have HL := Lib.hid (HLAB.out hnode.1.symm hnode.2 _ L A lc ac (hl1.out.up' hb2) (ha1.out.up hb2))
      have hb2' := hb1'.trans (hb2.mono hb1'.size)
      have HE : Hid (txt (.mk 3 ls ts) = 123 :: (commas (lab ls (txts ts)) ++ [125])) := Lib.hid (by rw [HTX.out]; rfl)
      have hjl : (commas (lab ls (txts ts))).length ≤ 8000 := by
        have h1 := HE.out
        rw [h1] at htlen
        simp at htlen
        omega
      generalize commas (lab ls (txts ts)) = J at *
      have hj1 : ¬ 9223372036854775807 < 1 + J.length := by omega
      have hj2 : ¬ 9223372036854775807 < 1 + J.length + 1 := by omega
      clear hnode hb2 htlen
      go_wp2_with fail
      generalize w1.alloc (.cells #[.slice L ls.length lc, .slice A ts.length ac] 82) = w2 at *
      refine HL.out.mono ?_
      rintro e w3 ⟨rfl, hb3⟩
      go_wp2
      go_ret
      exact ⟨by rw [HE.out, byte3]; rfl, hb2'.trans (hb3.mono hb2'.size)⟩
    · skip
      have haintForm := tf_sumForm_intForm
      have haboolForm := tf_sumForm_boolForm
      have harecForm := tf_sumForm_recForm
      have hasumForm := tf_sumForm_sumForm
      have hnode := HN.out
      rw [node3 _ _ _ (by omega)] at hnode
      simp only [Bool.and_eq_true, decide_eq_true_eq] at hnode
      have hb2 := (Below.refl w1.heap.size w1).alloc (Nat.le_refl _) (.cells #[.slice L ls.length lc, .slice A ts.length ac] 84)
      have HL := Lib.hid (HLAB.out hnode.1.symm hnode.2 _ L A lc ac (hl1.out.up' hb2) (ha1.out.up hb2))
      have hb2' := hb1'.trans (hb2.mono hb1'.size)
      have HE : Hid (txt (.mk 4 ls ts) = 60 :: (commas (lab ls (txts ts)) ++ [62])) := Lib.hid (by rw [HTX.out]; rfl)
      have hjl : (commas (lab ls (txts ts))).length ≤ 8000 := by
        have h1 := HE.out
        rw [h1] at htlen
        simp at htlen
        omega
      generalize commas (lab ls (txts ts)) = J at *
      have hj1 : ¬ 9223372036854775807 < 1 + J.length := by omega
      have hj2 : ¬ 9223372036854775807 < 1 + J.length + 1 := by omega
      clear hnode hb2 htlen
      go_wp2_with fail
      generalize w1.alloc (.cells #[.slice L ls.length lc, .slice A ts.length ac] 84) = w2 at *
      refine HL.out.mono ?_
      rintro e w3 ⟨rfl, hb3⟩
      go_wp2
      go_ret
      exact ⟨by rw [HE.out, byte3]; rfl, hb2'.trans (hb3.mono hb2'.size)⟩
    · skip
      have haintForm := tf_listForm_intForm
      have haboolForm := tf_listForm_boolForm
      have harecForm := tf_listForm_recForm
      have hasumForm := tf_listForm_sumForm
      have halistForm := tf_listForm_listForm
      obtain ⟨L2, lc2, A2, ac2, hv2, _⟩ := ht.open
      simp only [Value.agg.injEq, Array.mk.injEq, List.cons.injEq, and_true] at hv2
      obtain ⟨rfl, rfl, rfl⟩ := hv2
      have hb2 := (Below.refl w1.heap.size w1).alloc (Nat.le_refl _) (.cells #[.int .i64 t.kind, .slice L2 t.labels.length lc2, .slice A2 t.args.length ac2] 98)
      have hfe : formTy t = true := formTys_get HF.out 0 (by simp)
      have hsze : sizeTy t ≤ 1000 := by rw [sizeTys, sizeTys] at hsz2; omega
      have HT := Lib.hid (HALL.out 0 (by simp) _ (w1.alloc (.cells #[.int .i64 t.kind, .slice L2 t.labels.length lc2, .slice A2 t.args.length ac2] 98)) ((ht.up HB1.out).up hb2) hfe hsze)
      have hb2' := hb1'.trans (hb2.mono hb1'.size)
      have HE : Hid (txt (.mk 5 ls [t]) = 91 :: (txt t ++ [93])) := Lib.hid (by rw [HTX.out]; simp [nodeTxt, txts])
      have hjl : (txt t).length ≤ 8000 := by
        have h1 := HE.out
        rw [h1] at htlen
        simp at htlen
        omega
      have hT0 : ([t][0]'(by simp)) = t := rfl
      have HT2 : Hid (Calls Try.prog 36 #[.agg #[.int .i64 t.kind, .slice L2 t.labels.length lc2, .slice A2 t.args.length ac2]] (w1.alloc (.cells #[.int .i64 t.kind, .slice L2 t.labels.length lc2, .slice A2 t.args.length ac2] 98)) (StrIs ⟨(txt t).toArray⟩ (w1.alloc (.cells #[.int .i64 t.kind, .slice L2 t.labels.length lc2, .slice A2 t.args.length ac2] 98)))) := HT
      generalize txt t = J at *
      have hj1 : ¬ 9223372036854775807 < 1 + J.length := by omega
      have hj2 : ¬ 9223372036854775807 < 1 + J.length + 1 := by omega
      clear HT hb2 htlen hT0 hfe hsze ht
      go_wp2_with fail
      generalize w1.alloc (.cells #[.int .i64 t.kind, .slice L2 t.labels.length lc2, .slice A2 t.args.length ac2] 98) = w2 at *
      refine HT2.out.mono ?_
      rintro e w3 ⟨rfl, hb3⟩
      go_wp2
      go_ret
      exact ⟨by rw [HE.out, byte3]; rfl, hb2'.trans (hb3.mono hb2'.size)⟩

theorem implText_any (t : Ty) : TextOne 36 t := by
  induction t using Ty.ind with
  | h k ls ts ih => exact implText_of k ls ts ih

set_option maxHeartbeats 1000000 in
theorem implFormat_any (t : Ty) (v : Value) (w : World) (hv : OwnT w v t) (hsz : szTy t ≤ 1048576) : Calls Try.prog 10 #[v] w (StrIs (formatB t) w) := by
  have HX : validB t = true → Hid (∀ W, Below w.heap.size w W → Calls Try.prog 36 #[v] W (StrIs ⟨(txt t).toArray⟩ W)) := fun h => Lib.hid fun W hb => by
    unfold validB at h
    simp only [Bool.and_eq_true, decide_eq_true_eq] at h
    exact implText_any t v W (hv.here.up hb) h.2 (by omega)
  obtain ⟨L, lc, A, ac, rfl, _⟩ := hv.open
  obtain ⟨hb0, p0, hs0⟩ := boxes1 w 27 #[.int .i64 t.kind, .slice L t.labels.length lc, .slice A t.args.length ac]
  have HV := Lib.hid (implValid_any t _ _ (hv.up hb0) hsz)
  clear hv hs0
  cases hvb : validB t
  · rw [hvb] at HV
    have HE : Hid (formatB t = ⟨#[]⟩) := Lib.hid (by unfold formatB; rw [hvb]; rfl)
    clear HX hvb
    go_enter Try.func10, Try.ntmps10
    go_wp2_with fail
    generalize w.alloc (.cells #[.int .i64 t.kind, .slice L t.labels.length lc, .slice A t.args.length ac] 27) = w0 at *
    refine HV.out.mono ?_
    rintro e w1 ⟨rfl, hb1⟩
    go_wp2
    go_ret
    exact ⟨by rw [HE.out]; rfl, hb0.trans (hb1.mono hb0.size)⟩
  · rw [hvb] at HV
    have HE : Hid (formatB t = ⟨(txt t).toArray⟩) := Lib.hid (by unfold formatB; rw [hvb]; rfl)
    have HX2 := HX hvb
    clear HX hvb
    go_enter Try.func10, Try.ntmps10
    go_wp2_with fail
    generalize w.alloc (.cells #[.int .i64 t.kind, .slice L t.labels.length lc, .slice A t.args.length ac] 27) = w0 at *
    refine HV.out.mono ?_
    rintro e w1 ⟨rfl, hb1⟩
    have hb01 := hb0.trans (hb1.mono hb0.size)
    have HX3 := Lib.hid (HX2.out w1 hb01)
    have p1 := p0.below hb1 p0.lt
    have d0 : w1.cell? ⟨w.heap.size, 0, none⟩ = some (.int .i64 t.kind) := p1.cell 0
    have d1 : w1.cell? ⟨w.heap.size, 1, none⟩ = some (.slice L t.labels.length lc) := p1.cell 1
    have d2 : w1.cell? ⟨w.heap.size, 2, none⟩ = some (.slice A t.args.length ac) := p1.cell 2
    clear p1
    go_wp2_with fail
    refine HX3.out.mono ?_
    rintro e w2 ⟨rfl, hb2⟩
    go_wp2
    go_ret
    exact ⟨by rw [HE.out]; rfl, hb01.trans (hb2.mono hb01.size)⟩

end Go.Proofs.Ytmacbkcjeamaeaa
