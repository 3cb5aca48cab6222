/- spec.l4Text and spec.FormatType give the text of a tree. -/
import Derived.Test.YtmacbkcjeamaeaaTxtLen
import Derived.Test.YtmacbkcjeamaeaaSpecJoin
import Derived.Test.YtmacbkcjeamaeaaLabeled
namespace Go.Proofs.Ytmacbkcjeamaeaa
open Go.RowKit

/-- The string is handed back. -/
def StrIs (s : ByteArray) (w : World) (e : Ending) (w' : World) : Prop := e = .returned (.string s) ∧ Below w.heap.size w w'
/-- What the text is joined of. -/
def piecesOf (k : Int) (ls : List ByteArray) (ts : List Ty) : List (List UInt8) := if k = 5 then txts ts else lab ls (txts ts)
theorem bytesOf_len (xs : List (List UInt8)) : (bytesOf xs).length = xs.length := by simp [bytesOf]

theorem sizeTys_len : ∀ (ts : List Ty), ts.length ≤ sizeTys ts
  | [] => Nat.le_refl _
  | t :: r => by
    have h1 := sizeTys_len r
    have h2 := sizeTy_eq t
    rw [sizeTys, List.length_cons]
    omega

def TextOne (f : Nat) (t : Ty) : Prop := ∀ (v : Value) (w : World), TyAt w w.heap.size v t → formTy t = true → sizeTy t ≤ 1000 → Calls Try.prog f #[v] w (StrIs ⟨(txt t).toArray⟩ w)

theorem own_strings {w : World} {base n : Nat} {v : Value} {ss : List ByteArray} (h : w.ownsRow base 9 1 v n (strVals ss)) : ∃ A c, v = .slice A ss.length c ∧ StrsAt w w.heap.size A ss := by
  rcases RowStrs.of_own h with ⟨rfl, rfl⟩ | ⟨g, cap, rfl, h1, h2⟩
  · exact ⟨none, 0, rfl, StrsAt.empty _ _ _⟩
  · exact ⟨_, _, rfl, h2.at _ h2.lt⟩
theorem byte3 (a : UInt8) (x : List UInt8) (b : UInt8) : (⟨#[a]⟩ ++ ⟨x.toArray⟩ ++ ⟨#[b]⟩ : ByteArray) = ⟨(a :: (x ++ [b])).toArray⟩ := by
  apply ByteArray.ext
  rw [ByteArray.data_append, ByteArray.data_append]
  simp

set_option maxHeartbeats 4000000 in
set_option maxRecDepth 100000 in
theorem specText_of (k0 : Int) (ls : List ByteArray) (ts : List Ty) (hall : ∀ i, (h : i < ts.length) → TextOne 39 ts[i]) : TextOne 39 (.mk k0 ls ts) := by
  intro v w hv hf hsz
  obtain ⟨i0, hi, hz0, hz1, hz2⟩ := info_parts infoString
  have hlen := txt_len (.mk k0 ls ts) hf
  have htx : txt (.mk k0 ls ts) = nodeTxt k0 ls (txts ts) := by rw [txt]
  rw [formTy, Bool.and_eq_true] at hf
  obtain ⟨hsum, hlts⟩ := txts_sum ts fun i hi => txt_len ts[i] (formTys_get hf.1 i hi)
  have hsz2 : 1 + sizeTys ts ≤ 1000 := by rw [sizeTy] at hsz; exact hsz
  have HF := Lib.hid hf.1
  have hnode := hf.2
  have hkind : (k0 = 1 ∨ k0 = 2) ∧ ts = [] ∨ (k0 = 3 ∨ k0 = 4) ∧ ls.length = ts.length ∧ labelsB ls = true ∨ k0 = 5 ∧ ts.length = 1 := by
    unfold nodeB at hnode
    split at hnode
    · rename_i h
      simp only [Bool.and_eq_true, decide_eq_true_eq] at hnode
      exact .inl ⟨h, List.eq_nil_of_length_eq_zero hnode.2⟩
    · split at hnode
      · rename_i h
        simp only [Bool.and_eq_true, decide_eq_true_eq] at hnode
        exact .inr (.inl ⟨h, hnode.1.symm, hnode.2⟩)
      · split at hnode
        · rename_i h
          simp only [Bool.and_eq_true, decide_eq_true_eq] at hnode
          exact .inr (.inr ⟨h, hnode.2⟩)
        · cases hnode
  have hpl : (bytesOf (piecesOf k0 ls ts)).length = ts.length := by
    rw [bytesOf_len]
    unfold piecesOf
    rcases hkind with ⟨h1, rfl⟩ | ⟨h1, h2, _⟩ | ⟨rfl, h2⟩
    · rw [if_neg (by omega)]
      cases ls <;> simp [lab, txts]
    · rw [if_neg (by omega), lab_same _ _ (by omega)]
      exact h2
    · rw [if_pos rfl]
      exact hlts
  have hps : sumLens (piecesOf k0 ls ts) ≤ 8000 := by
    unfold piecesOf
    split
    · omega
    · rcases hkind with ⟨h1, rfl⟩ | ⟨h1, h2, h3⟩ | ⟨rfl, h2⟩
      · cases ls <;> simp [lab, txts, sumLens]
      · have := (lab_sum ls (txts ts) fun l hl => name_len (labelsB_names h3 l hl)).1
        omega
      · omega
  have HKIND := Lib.hid hkind
  have HPL := Lib.hid hpl
  have HPS := Lib.hid hps
  have HTX := Lib.hid htx
  have HALL := Lib.hid hall
  obtain ⟨L, lc, A, ac, rfl, hn, hz, hl, ha⟩ := hv.open
  simp only [Ty.kind, Ty.labels, Ty.args] at *
  have hm := ha.1
  clear hall hv hz hf hnode hkind hpl hps htx hsum hlts
  obtain ⟨hb0, p0, q0, hs0⟩ := boxes2 w 27 9 #[.int .i64 k0, .slice L ls.length lc, .slice A ts.length ac] #[]
  have hown0 : ((w.alloc (.cells #[.int .i64 k0, .slice L ls.length lc, .slice A ts.length ac] 27)).alloc (.cells #[] 9)).ownsRow (w.heap.size + 1) 9 1 (.slice (some ⟨w.heap.size + 1, 0, none⟩) 0 0) 0 [] := by
    have := World.ownsRow_lit (base := w.heap.size + 1) (e := 9) (size := 1) (w.alloc (.cells #[.int .i64 k0, .slice L ls.length lc, .slice A ts.length ac] 27)) #[] 0 (by simp) (Nat.zero_le _) rfl
    rw [show (w.alloc (.cells #[.int .i64 k0, .slice L ls.length lc, .slice A ts.length ac] 27)).heap.size = w.heap.size + 1 by simp] at this
    exact this
  have ha0 := ha.below hb0
  have hl0 := hl.below hb0
  have HZ := Lib.hid hs0
  have hszw : w.heap.size + 2 ≤ ((w.alloc (.cells #[.int .i64 k0, .slice L ls.length lc, .slice A ts.length ac] 27)).alloc (.cells #[] 9)).heap.size := by omega
  clear hs0 ha hl q0
  go_enter Try.func39, Try.ntmps39
  go_wp2
  generalize (w.alloc (.cells #[.int .i64 k0, .slice L ls.length lc, .slice A ts.length ac] 27)).alloc (.cells #[] 9) = w0 at *
  have hpw := p0.lt
  go_loopw [3, 4] (fun a i wr => ∃ k : Nat, k ≤ ts.length ∧ i = .int .i64 k ∧ wr.ownsRow (w.heap.size + 1) 9 1 a k (strVals ((bytesOf (piecesOf k0 ls ts)).take k)) ∧ Below (w.heap.size + 1) w0 wr) (fun _ i _ => ts.length - (intOf i).toNat)
  case atStart => exact ⟨0, Nat.zero_le _, rfl, hown0, Below.refl _ _⟩
  case round =>
    obtain ⟨k, hk, rfl, hown, hb⟩ := hrel
    have hbW := hb.mono (Nat.le_succ w.heap.size)
    have p1 := p0.below hb (Nat.lt_succ_self _)
    have c0 : wr.cell? ⟨w.heap.size, 0, none⟩ = some (.int .i64 k0) := p1.cell 0
    have c1 : wr.cell? ⟨w.heap.size, 1, none⟩ = some (.slice L ls.length lc) := p1.cell 1
    have c2 : wr.cell? ⟨w.heap.size, 2, none⟩ = some (.slice A ts.length ac) := p1.cell 2
    have hbs := hb.size
    by_cases hlt : k < ts.length
    · obtain ⟨b, off, L1, lc1, A1, ac1, rfl, hbl, q0, q1, q2, _, _, _, _, ht⟩ := (ha0.below hbW).elem k hlt
      have htk := sizeTys_take ts k hlt
      have htl := sizeTys_le ts (k + 1)
      have htx := Lib.hid (txt_len ts[k] (formTys_get HF.out k hlt))
      have htk2 : sizeTy ts[k] ≤ 999 := by omega
      have htk3 : ts.length ≤ 1000 := by have := sizeTys_len ts; omega
      have HT := Lib.hid (HALL.out k hlt _ wr (ht.more (by omega)) (formTys_get HF.out k hlt) (by omega))
      clear ht htk htl
      go_wp2_with fail
      refine HT.out.mono ?_
      rintro e w3 ⟨rfl, hb3'⟩
      have hb3 := hb.trans (hb3'.mono (by omega))
      have HOWN := Lib.hid (own_keep1 (w' := w3) hown (fun g hg => hb3'.block g (hown.lt g hg).2))
      have p3 := p0.below hb3 (Nat.lt_succ_self _)
      have d0 : w3.cell? ⟨w.heap.size, 0, none⟩ = some (.int .i64 k0) := p3.cell 0
      have d1 : w3.cell? ⟨w.heap.size, 1, none⟩ = some (.slice L ls.length lc) := p3.cell 1
      have HL := Lib.hid (hl0.below (hb3.mono (Nat.le_succ w.heap.size)))
      have hs3 := hb3.size
      clear hown p1 p3 c0 c1 c2 q0 q1 q2
      by_cases h5 : k0 = 5
      · have HPK : Hid ((bytesOf (piecesOf k0 ls ts))[k]'(by rw [HPL.out]; exact hlt) = ⟨(txt ts[k]).toArray⟩) := Lib.hid (by
          simp only [bytesOf, piecesOf, if_pos h5, List.getElem_map, txts_map])
        subst h5
        go_wp2_with (at_builtin; refine wpList_append_own _ rfl (.tmp 31) (.tmp 33) _ rfl (w.heap.size + 1) 9 i0 (.string ⟨#[]⟩) 1 16 Try.underlying24 hi hz0 hz1 hz2 rfl (by decide) _ _ _ rfl (HOWN.out.alloc _) ⟨w3.heap.size, 0, none⟩ 1 1 [.string ⟨(txt ts[k]).toArray⟩] rfl rfl (cellNew w3 9 _) (by intro u hu; simp at hu; subst hu; rfl) (by unfold maxLen; omega) (by omega) (by have := hb3.size; simp; omega) ?_; intro v1 w4 hown1 hg1 _)
        go_roundw
        case rel => exact ⟨k + 1, by omega, by go_num, by rw [show strVals ((bytesOf (piecesOf 5 ls ts)).take (k + 1)) = strVals ((bytesOf (piecesOf 5 ls ts)).take k) ++ [.string ⟨(txt ts[k]).toArray⟩] from by rw [List.take_succ_eq_append_getElem (by rw [HPL.out]; omega), HPK.out]; simp [strVals]]; exact hown1, (hb3.alloc (by omega) _).grown hg1 (by have := hb3.size; simp; omega) (fun q hq => by have := (HOWN.out.lt q hq).1; omega)⟩
        case measure => simp [intOf]; omega
      · have hlk : k < ls.length := by
          rcases HKIND.out with ⟨h1, rfl⟩ | ⟨h1, h2, _⟩ | ⟨rfl, h2⟩
          · simp at hlt
          · omega
          · omega
        have hk5 : (k0 == 5) = false := by rw [beq_eq_false_iff_ne]; exact h5
        have hlkI : (k : Int) < (ls.length : Int) := by omega
        obtain ⟨bl, ol, rfl, hbl2, hcl⟩ := HL.out k hlk
        have hl4 : ls[k].size ≤ 4 := by
          rcases HKIND.out with ⟨h1, rfl⟩ | ⟨h1, h2, h3⟩ | ⟨rfl, h2⟩
          · simp at hlt
          · exact name_len (labelsB_names h3 _ (List.getElem_mem hlk))
          · omega
        have hj1 : ¬ 9223372036854775807 < ls[k].size + 1 := by omega
        have hj2 : ¬ 9223372036854775807 < ls[k].size + 1 + (txt ts[k]).length := by have := htx.out; omega
        have HPK : Hid ((bytesOf (piecesOf k0 ls ts))[k]'(by rw [HPL.out]; exact hlt) = (ls[k] ++ ⟨#[58]⟩ ++ ⟨(txt ts[k]).toArray⟩)) := Lib.hid (by
          simp only [bytesOf, piecesOf, if_neg h5, List.getElem_map]
          rw [lab_get ls (txts ts) k hlk (by rw [txts_map]; simpa using hlt)]
          apply ByteArray.ext
          rw [ByteArray.data_append, ByteArray.data_append]
          simp [txts_map])
        go_wp2_with (at_builtin; refine wpList_append_own _ rfl (.tmp 31) (.tmp 33) _ rfl (w.heap.size + 1) 9 i0 (.string ⟨#[]⟩) 1 16 Try.underlying24 hi hz0 hz1 hz2 rfl (by decide) _ _ _ rfl (HOWN.out.alloc _) ⟨w3.heap.size, 0, none⟩ 1 1 [.string (ls[k] ++ ⟨#[58]⟩ ++ ⟨(txt ts[k]).toArray⟩)] rfl rfl (cellNew w3 9 _) (by intro u hu; simp at hu; subst hu; rfl) (by unfold maxLen; omega) (by omega) (by have := hb3.size; simp; omega) ?_; intro v1 w4 hown1 hg1 _)
        go_roundw
        case rel => exact ⟨k + 1, by omega, by go_num, by rw [show strVals ((bytesOf (piecesOf k0 ls ts)).take (k + 1)) = strVals ((bytesOf (piecesOf k0 ls ts)).take k) ++ [.string (ls[k] ++ ⟨#[58]⟩ ++ ⟨(txt ts[k]).toArray⟩)] from by rw [List.take_succ_eq_append_getElem (by rw [HPL.out]; omega), HPK.out]; simp [strVals]]; exact hown1, (hb3.alloc (by omega) _).grown hg1 (by have := hb3.size; simp; omega) (fun q hq => by have := (HOWN.out.lt q hq).1; omega)⟩
        case measure => simp [intOf]; omega
    · have hke : k = ts.length := by omega
      subst hke
      rw [List.take_of_length_le (by rw [HPL.out]; exact Nat.le_refl _)] at hown
      obtain ⟨A3, c3, rfl, hst⟩ := own_strings hown
      have HB := Lib.hid (hb0.trans hbW)
      have hpn : (bytesOf (piecesOf k0 ls ts)).length = ts.length := HPL.out
      have htk3 : ts.length ≤ 1000 := by have := sizeTys_len ts; omega
      have HJ := Lib.hid (specJoin_any A3 c3 (bytesOf (piecesOf k0 ls ts)) ⟨#[44]⟩ wr hst (by omega) (by rw [bytesOf_sum]; have := HPS.out; omega) (by decide))
      have HC : Hid (joinTo (bytesOf (piecesOf k0 ls ts)) ⟨#[44]⟩ (bytesOf (piecesOf k0 ls ts)).length = commas (piecesOf k0 ls ts)) := Lib.hid (by
        rw [bytesOf_len, join_commas _ _ (Nat.le_refl _), List.take_of_length_le (Nat.le_refl _)])
      have HST := Lib.hid hst
      have HPN := Lib.hid hpn
      clear hown hst p1 ha0 hl0 hpn
      have hpn' : (bytesOf (piecesOf k0 ls ts)).length = ts.length := HPN.out
      rcases HKIND.out with ⟨rfl | rfl, rfl⟩ | ⟨rfl | rfl, h2, h3⟩ | ⟨rfl, h2⟩
      · go_wp2
        go_ret
        exact ⟨by rw [HTX.out]; rfl, HB.out⟩
      · go_wp2
        go_ret
        exact ⟨by rw [HTX.out]; rfl, HB.out⟩
      · have hJ := HJ.out
        rw [HC.out] at hJ
        have hJl := commas_len (piecesOf 3 ls ts)
        have hJp := HPS.out
        rw [bytesOf_len] at hpn'
        have HE : Hid (txt (.mk 3 ls ts) = 123 :: (commas (piecesOf 3 ls ts) ++ [125])) := Lib.hid (by rw [HTX.out]; rfl)
        generalize commas (piecesOf 3 ls ts) = J at *
        have hj1 : ¬ 9223372036854775807 < 1 + J.length := by omega
        have hj2 : ¬ 9223372036854775807 < 1 + J.length + 1 := by omega
        have HJ2 := Lib.hid hJ
        clear h2 h3 hJ hJl hJp hpn'
        go_wp2_with fail
        refine HJ2.out.mono ?_
        rintro e w5 ⟨rfl, hb5⟩
        go_wp2
        go_ret
        exact ⟨by rw [HE.out, byte3]; rfl, HB.out.trans (hb5.mono HB.out.size)⟩
      · have hJ := HJ.out
        rw [HC.out] at hJ
        have hJl := commas_len (piecesOf 4 ls ts)
        have hJp := HPS.out
        rw [bytesOf_len] at hpn'
        have HE : Hid (txt (.mk 4 ls ts) = 60 :: (commas (piecesOf 4 ls ts) ++ [62])) := Lib.hid (by rw [HTX.out]; rfl)
        generalize commas (piecesOf 4 ls ts) = J at *
        have hj1 : ¬ 9223372036854775807 < 1 + J.length := by omega
        have hj2 : ¬ 9223372036854775807 < 1 + J.length + 1 := by omega
        have HJ2 := Lib.hid hJ
        clear h2 h3 hJ hJl hJp hpn'
        go_wp2_with fail
        refine HJ2.out.mono ?_
        rintro e w5 ⟨rfl, hb5⟩
        go_wp2
        go_ret
        exact ⟨by rw [HE.out, byte3]; rfl, HB.out.trans (hb5.mono HB.out.size)⟩
      · have h0 : 0 < (bytesOf (piecesOf 5 ls ts)).length := by rw [HPN.out]; omega
        obtain ⟨b, o, rfl, hbl, hcl⟩ := HST.out 0 h0
        have h0I : (0 : Int) < ((bytesOf (piecesOf 5 ls ts)).length : Int) := by omega
        have h00 : 0 < (txts ts).length := by rw [txts_map, List.length_map]; omega
        have e0 : (bytesOf (piecesOf 5 ls ts))[0] = ⟨((txts ts).headD []).toArray⟩ := by
          obtain ⟨a, r, hT⟩ : ∃ a r, txts ts = a :: r := by
            cases hT : txts ts with
            | nil => rw [hT] at h00; simp at h00
            | cons a r => exact ⟨a, r, rfl⟩
          simp only [bytesOf, piecesOf, if_true, List.getElem_map, hT]
          rfl
        rw [Nat.add_zero, e0] at hcl
        have HE : Hid (txt (.mk 5 ls ts) = 91 :: ((txts ts).headD [] ++ [93])) := Lib.hid (by rw [HTX.out]; rfl)
        have hTl : ((txts ts).headD []).length ≤ sumLens (txts ts) := by
          cases txts ts with
          | nil => simp
          | cons a r => simp [sumLens]
        have hTp : sumLens (txts ts) ≤ 8000 := by have := HPS.out; unfold piecesOf at this; rw [if_pos rfl] at this; exact this
        generalize (txts ts).headD [] = T at *
        have hj1 : ¬ 9223372036854775807 < 1 + T.length := by omega
        have hj2 : ¬ 9223372036854775807 < 1 + T.length + 1 := by omega
        clear h2 hTl hTp e0 h00
        go_wp2
        go_ret
        exact ⟨by rw [HE.out, byte3]; rfl, HB.out⟩

theorem specText_any (t : Ty) : TextOne 39 t := by
  induction t using Ty.ind with
  | h k ls ts ih => exact specText_of k ls ts ih

set_option maxHeartbeats 1000000 in
theorem specFormat_any (t : Ty) (v : Value) (w : World) (hv : TyAt w w.heap.size v t) (hsz : szTy t ≤ 1048576) : Calls Try.prog 12 #[v] w (StrIs (formatB t) w) := by
  have HX : validB t = true → Hid (∀ W, Below w.heap.size w W → Calls Try.prog 39 #[v] W (StrIs ⟨(txt t).toArray⟩ W)) := fun h => Lib.hid fun W hb => by
    unfold validB at h
    simp only [Bool.and_eq_true, decide_eq_true_eq] at h
    exact specText_any t v W (hv.up hb) h.2 (by omega)
  have hv0 := hv
  obtain ⟨L, lc, A, ac, rfl, _⟩ := hv.open
  obtain ⟨hb0, p0, hs0⟩ := boxes1 w 27 #[.int .i64 t.kind, .slice L t.labels.length lc, .slice A t.args.length ac]
  have HV := Lib.hid (specValid_any t _ _ (hv0.up hb0) hsz)
  have c0 : (w.alloc (.cells #[.int .i64 t.kind, .slice L t.labels.length lc, .slice A t.args.length ac] 27)).cell? ⟨w.heap.size, 0, none⟩ = some (.int .i64 t.kind) := p0.cell 0
  have c1 : (w.alloc (.cells #[.int .i64 t.kind, .slice L t.labels.length lc, .slice A t.args.length ac] 27)).cell? ⟨w.heap.size, 1, none⟩ = some (.slice L t.labels.length lc) := p0.cell 1
  have c2 : (w.alloc (.cells #[.int .i64 t.kind, .slice L t.labels.length lc, .slice A t.args.length ac] 27)).cell? ⟨w.heap.size, 2, none⟩ = some (.slice A t.args.length ac) := p0.cell 2
  clear hv hv0 hs0
  cases hvb : validB t
  · rw [hvb] at HV
    have HE : Hid (formatB t = ⟨#[]⟩) := Lib.hid (by unfold formatB; rw [hvb]; rfl)
    clear HX hvb
    go_enter Try.func12, Try.ntmps12
    go_wp2_with fail
    generalize w.alloc (.cells #[.int .i64 t.kind, .slice L t.labels.length lc, .slice A t.args.length ac] 27) = w0 at *
    refine HV.out.mono ?_
    rintro e w1 ⟨rfl, hb1⟩
    go_wp2
    go_ret
    exact ⟨by rw [HE.out]; rfl, hb0.trans (hb1.mono hb0.size)⟩
  · rw [hvb] at HV
    have HE : Hid (formatB t = ⟨(txt t).toArray⟩) := Lib.hid (by unfold formatB; rw [hvb]; rfl)
    have HX2 := HX hvb
    clear HX hvb
    go_enter Try.func12, Try.ntmps12
    go_wp2_with fail
    generalize w.alloc (.cells #[.int .i64 t.kind, .slice L t.labels.length lc, .slice A t.args.length ac] 27) = w0 at *
    refine HV.out.mono ?_
    rintro e w1 ⟨rfl, hb1⟩
    have hb01 := hb0.trans (hb1.mono hb0.size)
    have HX3 := Lib.hid (HX2.out w1 hb01)
    have p1 := p0.below hb1 p0.lt
    have d0 : w1.cell? ⟨w.heap.size, 0, none⟩ = some (.int .i64 t.kind) := p1.cell 0
    have d1 : w1.cell? ⟨w.heap.size, 1, none⟩ = some (.slice L t.labels.length lc) := p1.cell 1
    have d2 : w1.cell? ⟨w.heap.size, 2, none⟩ = some (.slice A t.args.length ac) := p1.cell 2
    clear p1 c0 c1 c2
    go_wp2_with fail
    refine HX3.out.mono ?_
    rintro e w2 ⟨rfl, hb2⟩
    go_wp2
    go_ret
    exact ⟨by rw [HE.out]; rfl, hb01.trans (hb2.mono hb01.size)⟩

end Go.Proofs.Ytmacbkcjeamaeaa
