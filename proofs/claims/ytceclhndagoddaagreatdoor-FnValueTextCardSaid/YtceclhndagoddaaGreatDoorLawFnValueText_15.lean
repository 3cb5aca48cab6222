/- Lemmas: VTxtLen, ShelfItoa, SpecFmt, Fmt. -/
import Derived.Test.YtceclhndagoddaaGreatDoorLawFnValueText_14
import Derived.Shelf.Strings.Builder1
import Derived.Shelf.Strings.BuilderF
import Derived.Shelf.Strings.BuilderK
import Derived.Shelf.Strconv.Atoi
import Derived.Shelf.Strconv.Itoa0
import Derived.Shelf.Strconv.Itoa1
import Derived.Shelf.LaysM
import Derived.Shelf.Strconv.Itoa2
import Derived.Shelf.Strconv.Itoa3
import Derived.Shelf.Strconv.AtoiErrFast
import Derived.Shelf.Strconv.ParseIntEmpty
import Derived.Shelf.Strconv.AtoiFail
import Derived.Shelf.Strconv.Clone
import Derived.Shelf.Strconv.SyntaxError
import Derived.Shelf.LaysC
import Derived.Shelf.Strconv.ToError
import Derived.Shelf.Strconv.Lower
import Derived.Shelf.Strconv.ParseUint10
import Derived.Shelf.Strconv.ParseUint10Empty
import Derived.Shelf.Strconv.ParseUint10Any
import Derived.Shelf.Strconv.ParseInt10
import Derived.Shelf.Strconv.AtoiLong
import Derived.Shelf.Strconv.AtoiInnerAll
import Derived.Shelf.Strconv.RangeError
import Derived.Shelf.Strconv.ToErrorRange
import Derived.Shelf.Strconv.AtoiAll
import Derived.Shelf.Strconv.ErrVarAll
import Derived.Shelf.Strconv.ParseUintEmpty
import Derived.Shelf.Strconv.ParseUint10b64
import Derived.Shelf.Strconv.ParseUint10b32
import Derived.Shelf.Strconv.ParseUint10b16
import Derived.Shelf.Strconv.ParseUint10b8
import Derived.Shelf.Strconv.ParseUint10At
import Derived.Shelf.GgClosure.StringsIndexFunc
import Derived.Shelf.GgClosure.StringsTrimFunc
import Derived.Shelf.GgClosure.StringsRunes
import Derived.Shelf.Strings.Prefix
import Derived.Shelf.Strings.BuilderCap
import Derived.Shelf.Slices.Equal
import Derived.Shelf.Slices.Empties2
import Derived.Test.YtceclhndagoddaaGreatDoorProg
import Derived.Test.YtceclhndagoddaaGreatDoorLawFnValueText_1
import Derived.Sort.Grow

section
namespace Go.Proofs.YtceclhndagoddaaGreatDoor
open Go.RowKit

theorem emptySize0 : (⟨#[]⟩ : ByteArray).size = 0 := rfl
theorem itoa_len (n : Int) (h : -9223372036854775808 ≤ n ∧ n ≤ 9223372036854775807) : (Lib.itoa n).length ≤ 20 := by
  by_cases h0 : n < 0
  · rw [Lib.itoa, if_pos h0]
    have := dec_len 18 n.natAbs (by omega)
    simp
    omega
  · rw [Lib.itoa, if_neg h0]
    have := dec_len 18 n.toNat (by omega)
    omega
theorem labE_sum : ∀ (ls : List ByteArray) (xs : List (List UInt8)), (∀ l ∈ ls, l.size ≤ 4) → sumLens (labE ls xs) ≤ sumLens xs + 5 * xs.length ∧ (labE ls xs).length ≤ xs.length
  | [], xs, _ => by simp [labE, sumLens]
  | _ :: _, [], _ => by simp [labE, sumLens]
  | l :: ls, x :: xs, h => by
    have h1 := labE_sum ls xs fun l hl => h l (by simp [hl])
    have h2 := h l (by simp)
    have h3 : l.data.toList.length = l.size := by simp
    simp only [labE, sumLens, List.map_cons, List.sum_cons, List.length_append, List.length_cons] at h1 ⊢
    omega
theorem labE_same : ∀ (ls : List ByteArray) (xs : List (List UInt8)), ls.length = xs.length → (labE ls xs).length = ls.length
  | [], _, _ => rfl
  | _ :: _, [], h => by simp at h
  | l :: ls, x :: xs, h => by simp [labE, labE_same ls xs (by simpa using h)]
theorem labE_get : ∀ (ls : List ByteArray) (xs : List (List UInt8)) (k : Nat) (h1 : k < ls.length) (h2 : k < xs.length) (h3 : k < (labE ls xs).length), (labE ls xs)[k] = ls[k].data.toList ++ 61 :: xs[k]
  | [], _, _, h, _, _ => by simp at h
  | _ :: _, [], _, _, h, _ => by simp at h
  | l :: ls, x :: xs, 0, _, _, _ => rfl
  | l :: ls, x :: xs, k + 1, h1, h2, h3 => labE_get ls xs k (by simpa using h1) (by simpa using h2) (by simpa [labE] using h3)
theorem txtVs_sum : ∀ (ts : List Va), (∀ i, (h : i < ts.length) → (txtV ts[i]).length + 6 ≤ 26 * sizeVa ts[i]) → sumLens (txtVs ts) + 6 * ts.length ≤ 26 * sizeVas ts ∧ (txtVs ts).length = ts.length
  | [], _ => by simp [txtVs, sumLens, sizeVas]
  | t :: r, h => by
    have h1 := txtVs_sum r fun i hi => h (i + 1) (by simpa using hi)
    have h2 := h 0 (by simp)
    simp only [txtVs, sumLens, sizeVas, List.map_cons, List.sum_cons, List.length_cons, List.getElem_cons_zero] at h1 h2 ⊢
    omega
theorem formVas_get {ts : List Va} (h : formVas ts = true) (i : Nat) (hi : i < ts.length) : formVa ts[i] = true := formVas_mem h _ (List.getElem_mem hi)
/-- The kinds of nodes. -/
theorem nodeVB_kind {k n : Int} {nm : ByteArray} {ls : List ByteArray} {m : Nat} (h : nodeVB k n nm ls m = true) :
    k = 1 ∧ m = 0 ∨ k = 2 ∧ m = 0 ∧ 0 ≤ n ∧ n ≤ 1 ∨ k = 3 ∧ ls.length = m ∧ labelsB ls = true ∨ k = 4 ∧ m = 1 ∧ isNameB nm = true ∨ k = 5 := by
  unfold nodeVB at h
  split at h
  · simp only [Bool.and_eq_true, decide_eq_true_eq] at h
    exact Or.inl ⟨by assumption, h.2⟩
  · split at h
    · simp only [Bool.and_eq_true, decide_eq_true_eq] at h
      exact Or.inr (Or.inl ⟨by assumption, h.1.2, h.2⟩)
    · split at h
      · simp only [Bool.and_eq_true, decide_eq_true_eq] at h
        exact Or.inr (Or.inr (Or.inl ⟨by assumption, h.1.2.symm, h.2⟩))
      · split at h
        · simp only [Bool.and_eq_true, decide_eq_true_eq] at h
          exact Or.inr (Or.inr (Or.inr (Or.inl ⟨by assumption, h.2, h.1.1.1⟩)))
        · split at h
          · exact Or.inr (Or.inr (Or.inr (Or.inr (by assumption))))
          · cases h
theorem txtV_len (t : Va) : formVa t = true → numsB t = true → (txtV t).length + 6 ≤ 26 * sizeVa t := by
  induction t using Va.ind with
  | h k n nm ls ts ih =>
    intro hf hq
    rw [formVa, Bool.and_eq_true] at hf
    have hq2 := numsB_of _ hq
    obtain ⟨h1, h2⟩ := txtVs_sum ts fun i hi => ih i hi (formVas_get hf.1 i hi) (hq2.2 i hi)
    have hn := nodeVB_kind hf.2
    have hi := itoa_len n hq2.1
    rw [txtV, sizeVa]
    unfold nodeTxtV
    rcases hn with ⟨rfl, hm⟩ | ⟨rfl, hm, _⟩ | ⟨rfl, hm, hl⟩ | ⟨rfl, hm, hl⟩ | rfl
    · rw [if_pos rfl]
      omega
    · rw [if_neg (by decide), if_pos rfl]
      simp
      omega
    · rw [if_neg (by decide), if_neg (by decide), if_pos rfl]
      have h3 := labE_sum ls (txtVs ts) fun l hl2 => name_len (labelsB_names hl l hl2)
      have h4 := commas_len (labE ls (txtVs ts))
      simp only [List.length_cons, List.length_append, List.length_nil]
      omega
    · rw [if_neg (by decide), if_neg (by decide), if_neg (by decide), if_pos rfl]
      have h3 := name_len hl
      have h4 : nm.data.toList.length = nm.size := by simp
      have hh : (txtVs ts).headD [] = [] ∨ ((txtVs ts).headD []).length ≤ sumLens (txtVs ts) := by
        cases txtVs ts with
        | nil => exact .inl rfl
        | cons a r => exact .inr (by simp [sumLens])
      simp only [List.length_cons, List.length_append, List.length_nil]
      rcases hh with hh | hh
      · rw [hh]
        simp
        omega
      · omega
    · rw [if_neg (by decide), if_neg (by decide), if_neg (by decide), if_neg (by decide)]
      have h4 := commas_len (txtVs ts)
      simp only [List.length_cons, List.length_append, List.length_nil]
      omega

/-- A value that is read is no larger than its text. -/
theorem commas_sum : ∀ (xs : List (List UInt8)), sumLens xs + xs.length ≤ (commas xs).length + 1
  | [] => by simp [sumLens, commas]
  | [a] => by simp [sumLens, commas]
  | a :: b :: r => by
    have := commas_sum (b :: r)
    simp only [commas, sumLens, List.map_cons, List.sum_cons, List.length_append, List.length_cons] at this ⊢
    omega
theorem szVas_le_sum : ∀ (ts : List Va), (∀ t ∈ ts, szVa t + 1 ≤ (txtV t).length) → szVas ts ≤ sumLens (ts.map txtV)
  | [], _ => by simp [szVas, sumLens]
  | t :: r, h => by
    have h1 := szVas_le_sum r fun u hu => h u (by simp [hu])
    have h2 := h t (by simp)
    simp only [szVas, sumLens, List.map_cons, List.sum_cons] at h1 ⊢
    omega
theorem szPairs_le_sum : ∀ (ps : List (ByteArray × Va)), (∀ p ∈ ps, szVa p.2 + 1 ≤ (txtV p.2).length) → (ps.map (·.1)).length + sumSizes (ps.map (·.1)) + szVas (ps.map (·.2)) ≤ sumLens (ps.map fun p => p.1.data.toList ++ 61 :: txtV p.2)
  | [], _ => by simp [szVas, sumLens, sumSizes]
  | p :: r, h => by
    have h1 := szPairs_le_sum r fun u hu => h u (by simp [hu])
    have h2 := h p (by simp)
    have h3 : p.1.data.toList.length = p.1.size := by simp
    simp only [szVas, sumLens, sumSizes, List.map_cons, List.sum_cons, List.length_append, List.length_cons] at h1 ⊢
    omega
theorem rdVa_sz (n : Nat) : ∀ (l : List UInt8) (t : Va) (r : List UInt8), rdVa n l = some (t, r) → szVa t + 1 ≤ (txtV t).length := by
  induction n with
  | zero =>
    intro l t r h
    cases h
  | succ n ih =>
    intro l t r h
    rw [rdVa] at h
    split at h
    · cases h
      simp [szVa, szVas, sumSizes, txtV, nodeTxtV, emptySize0]
    · split at h
      · cases h
        simp [szVa, szVas, sumSizes, txtV, nodeTxtV, emptySize0]
      · split at h
        · unfold rdRec at h
          split at h
          · cases h
          · rename_i ps q hq
            cases h
            have hall := rdSeqE_all (P := fun p : ByteArray × Va => szVa p.2 + 1 ≤ (txtV p.2).length) (fun l a r h => by
              unfold rdField at h
              split at h
              · cases h
              · split at h
                · cases h
                · rename_i t q ht
                  cases h
                  exact ih _ _ _ ht) _ _ _ _ hq
            have h1 := szPairs_le_sum ps hall
            rw [txtV, nodeTxtV, if_neg (by decide), if_neg (by decide), if_pos rfl, labE_map]
            have h2 := commas_sum (ps.map fun p : ByteArray × Va => p.1.data.toList ++ 61 :: txtV p.2)
            simp only [szVa, List.length_cons, List.length_append, List.length_nil, emptySize0] at h1 h2 ⊢
            simp
            simp at h1 h2
            omega
        · split at h
          · unfold rdList at h
            split at h
            · cases h
            · rename_i ts q hq
              cases h
              have hall := rdSeqE_all (P := fun t : Va => szVa t + 1 ≤ (txtV t).length) ih _ _ _ _ hq
              have h1 := szVas_le_sum ts hall
              rw [txtV, nodeTxtV, if_neg (by decide), if_neg (by decide), if_neg (by decide), if_neg (by decide), txtVs_map]
              have h2 := commas_sum (ts.map txtV)
              simp only [szVa, List.length_cons, List.length_append, List.length_nil, emptySize0] at h1 h2 ⊢
              simp [sumSizes]
              omega
          · split at h
            · unfold rdTag at h
              split at h
              · cases h
              · split at h
                · cases h
                · rename_i u q2 hu
                  split at h
                  · cases h
                  · cases h
                    have h1 := ih _ _ _ hu
                    rw [txtV, nodeTxtV, if_neg (by decide), if_neg (by decide), if_neg (by decide), if_pos rfl]
                    generalize (⟨(List.takeWhile wordC _).toArray⟩ : ByteArray) = nm
                    have h2 : nm.data.toList.length = nm.size := by simp
                    have h3 : szVa (.mk 4 0 nm [] [u]) = nm.size + (1 + szVa u) := by simp [szVa, szVas, sumSizes]
                    rw [h3]
                    simp only [txtVs, List.headD_cons, List.length_cons, List.length_append, List.length_nil]
                    omega
            · unfold rdIntV at h
              split at h
              · split at h
                · cases h
                · cases h
                  rw [szVa]
                  have := txtV_pos (.mk 1 (by assumption) ⟨#[]⟩ [] [])
                  simpa [szVas, sumSizes, emptySize0] using this
              · split at h
                · cases h
                · cases h
                  rw [szVa]
                  have := txtV_pos (.mk 1 (by assumption) ⟨#[]⟩ [] [])
                  simpa [szVas, sumSizes, emptySize0] using this

theorem parseVB_of {s : ByteArray} {t : Va} (hv : valueB t = true) (hs : smallB t = true) (ht : txtV t = s.data.toList) : parseVB s = some t := by
  have h := hv
  unfold valueB at h
  simp only [Bool.and_eq_true, decide_eq_true_eq] at h
  have h1 := rdVa_full 300 t h.2 (by have := depth_le_sizeV t; omega) hs [] (fun c hc => by cases hc)
  rw [List.append_nil, ht] at h1
  unfold parseVB
  rw [h1]
  simp [hv]
theorem rdVa_small (n : Nat) : ∀ (l : List UInt8) (t : Va) (r : List UInt8), rdVa n l = some (t, r) → smallB t = true := by
  induction n with
  | zero =>
    intro l t r h
    cases h
  | succ n ih =>
    intro l t r h
    rw [rdVa] at h
    split at h
    · cases h
      rfl
    · split at h
      · cases h
        rfl
      · split at h
        · unfold rdRec at h
          split at h
          · cases h
          · rename_i ps q hq
            cases h
            have hall := rdSeqE_all (P := fun p : ByteArray × Va => smallB p.2 = true) (fun l a r h => by
              unfold rdField at h
              split at h
              · cases h
              · split at h
                · cases h
                · rename_i t q ht
                  cases h
                  exact ih _ _ _ ht) _ _ _ _ hq
            rw [smallB, smallBs_of _ fun t ht => by
              obtain ⟨p, hp, rfl⟩ := List.mem_map.1 ht
              exact hall p hp]
            rfl
        · split at h
          · unfold rdList at h
            split at h
            · cases h
            · rename_i ts q hq
              cases h
              rw [smallB, smallBs_of _ (rdSeqE_all (P := fun t : Va => smallB t = true) ih _ _ _ _ hq)]
              rfl
          · split at h
            · unfold rdTag at h
              split at h
              · cases h
              · split at h
                · cases h
                · rename_i u q2 hu
                  split at h
                  · cases h
                  · cases h
                    rw [smallB, smallBs, smallBs, ih _ _ _ hu]
                    rfl
            · unfold rdIntV at h
              split at h
              · split at h
                · cases h
                · rename_i n hn
                  cases h
                  have := unItoa_some hn
                  simp [smallB, smallBs, this]
              · split at h
                · cases h
                · rename_i n hn
                  cases h
                  have := unItoa_some hn
                  simp [smallB, smallBs, this]
end Go.Proofs.YtceclhndagoddaaGreatDoor
end

section
namespace Go.Proofs
open Go.Shelf
def Tryz.laysM171_ren : Go.Shelf.Ren := ⟨fun | 171 => 67 | 243 => 87 | 246 => 98 | 283 => 103 | 284 => 104 | 285 => 105 | 286 => 106 | 129 => 114 | 317 => 113 | 318 => 115 | 319 => 116 | 320 => 117 | 337 => 120 | 338 => 121 | n => n, fun | 3 => 3 | 9 => 9 | 2 => 2 | 4 => 4 | 171 => 128 | 0 => 0 | 53 => 129 | 37 => 22 | 5 => 5 | 173 => 132 | 212 => 143 | 51 => 144 | 20 => 20 | 213 => 145 | 46 => 109 | 232 => 158 | 233 => 159 | n => n, fun | 17 => 1 | 18 => 4 | 19 => 5 | n => n⟩
theorem Tryz.laysM171 : Go.Proofs.LaysM.n171 Tryz.prog Tryz.laysM171_ren := {
  mixed := by kernel_rfl
  f129 := Tryz.func114.trans (congrArg some (by kernel_rfl))
  f171 := Tryz.func67.trans (congrArg some (by kernel_rfl))
  f243 := Tryz.func87.trans (congrArg some (by kernel_rfl))
  f246 := Tryz.func98.trans (congrArg some (by kernel_rfl))
  f283 := Tryz.func103.trans (congrArg some (by kernel_rfl))
  f284 := Tryz.func104.trans (congrArg some (by kernel_rfl))
  f285 := Tryz.func105.trans (congrArg some (by kernel_rfl))
  f286 := Tryz.func106.trans (congrArg some (by kernel_rfl))
  f317 := Tryz.func113.trans (congrArg some (by kernel_rfl))
  f318 := Tryz.func115.trans (congrArg some (by kernel_rfl))
  f319 := Tryz.func116.trans (congrArg some (by kernel_rfl))
  f320 := Tryz.func117.trans (congrArg some (by kernel_rfl))
  f337 := Tryz.func120.trans (congrArg some (by kernel_rfl))
  f338 := Tryz.func121.trans (congrArg some (by kernel_rfl))
  t0 := Tryz.underlying0
  a0 := Tryz.isAgg0
  z0 := Tryz.sizeOf0
  v0 := Tryz.zeroValue0
  t2 := Tryz.underlying2
  a2 := Tryz.isAgg2
  z2 := Tryz.sizeOf2
  v2 := Tryz.zeroValue2
  t3 := Tryz.underlying3
  a3 := Tryz.isAgg3
  z3 := Tryz.sizeOf3
  v3 := Tryz.zeroValue3
  t4 := Tryz.underlying4
  a4 := Tryz.isAgg4
  z4 := Tryz.sizeOf4
  v4 := Tryz.zeroValue4
  t5 := Tryz.underlying5
  a5 := Tryz.isAgg5
  z5 := Tryz.sizeOf5
  v5 := Tryz.zeroValue5
  t9 := Tryz.underlying9
  a9 := Tryz.isAgg9
  z9 := Tryz.sizeOf9
  v9 := Tryz.zeroValue9
  t20 := Tryz.underlying20
  a20 := Tryz.isAgg20
  z20 := Tryz.sizeOf20
  v20 := Tryz.zeroValue20
  t37 := Tryz.underlying22
  a37 := Tryz.isAgg22
  z37 := Tryz.sizeOf22
  v37 := Tryz.zeroValue22
  t46 := Tryz.underlying109
  a46 := Tryz.isAgg109
  z46 := Tryz.sizeOf109
  v46 := Tryz.zeroValue109
  t51 := Tryz.underlying144
  a51 := Tryz.isAgg144
  z51 := Tryz.sizeOf144
  v51 := Tryz.zeroValue144
  t53 := Tryz.underlying129
  a53 := Tryz.isAgg129
  z53 := Tryz.sizeOf129
  v53 := Tryz.zeroValue129
  t171 := Tryz.underlying128
  a171 := Tryz.isAgg128
  z171 := Tryz.sizeOf128
  v171 := Tryz.zeroValue128
  t173 := Tryz.underlying132
  a173 := Tryz.isAgg132
  z173 := Tryz.sizeOf132
  v173 := Tryz.zeroValue132
  t212 := Tryz.underlying143
  a212 := Tryz.isAgg143
  z212 := Tryz.sizeOf143
  v212 := Tryz.zeroValue143
  t213 := Tryz.underlying145
  a213 := Tryz.isAgg145
  z213 := Tryz.sizeOf145
  t232 := Tryz.underlying158
  a232 := Tryz.isAgg158
  z232 := Tryz.sizeOf158
  v232 := Tryz.zeroValue158
  t233 := Tryz.underlying159
  a233 := Tryz.isAgg159
  z233 := Tryz.sizeOf159
  v233 := Tryz.zeroValue159
  g17 := by kernel_rfl
  g18 := by kernel_rfl
  g19 := by kernel_rfl
  i0 := by kernel_rfl
  i2 := by kernel_rfl
  i3 := by kernel_rfl
  i4 := by kernel_rfl
  i5 := by kernel_rfl
  i9 := by kernel_rfl
  i20 := by kernel_rfl
  i37 := by kernel_rfl
  i46 := by kernel_rfl
  i51 := by kernel_rfl
  i53 := by kernel_rfl
  i171 := by kernel_rfl
  i173 := by kernel_rfl
  i212 := by kernel_rfl
  i232 := by kernel_rfl
  i233 := by kernel_rfl
  m17 := by kernel_rfl
  m18 := by kernel_rfl
  m19 := by kernel_rfl }
open Go.RowKit Go.Sort Go.Lib in
theorem Tryz.strconv_Itoa (n : Int) (h0 : -9223372036854775808 ≤ n) (h1 : n ≤ 9223372036854775807) (w : World) (htab : Lib.TabIs Tryz.prog w "internal/strconv.uint64pow10" .u64 Lib.pow10Tab) :
    Calls Tryz.prog 67 #[.int .i64 n] w fun e w' => e = .returned (.string ⟨(Lib.itoa n).toArray⟩) ∧ ∃ k os, w' = grow (w.drewN k) os := Any.strconv_Itoa Tryz.laysM171 n h0 h1 w htab
end Go.Proofs
end

section
namespace Go.Proofs.YtceclhndagoddaaGreatDoor
open Go.RowKit

set_option maxHeartbeats 400000 in
set_option maxRecDepth 100000 in
theorem specFormatInt_pos (n : Nat) (w : World) (h0 : 0 < n) (h1 : n ≤ 2 ^ 63 - 1) :
    Calls Tryz.prog 48 #[.int .i64 n] w fun e w' => e = .returned (.string ⟨(nz n).toArray⟩) ∧ Below w.heap.size w w' := by
  have hn0 : ((n : Int) == 0) = false := by simp; omega
  have hnl : ¬ (n : Int) < 0 := by omega
  have hcv := run_convert_byte (P := Tryz.prog) Tryz.underlying22 Tryz.underlying5 Tryz.underlying9
  go_enter Tryz.func48, Tryz.ntmps48
  go_wp2
  go_loopw [0, 4] (fun m s wr => ∃ (u : Nat) (out : List UInt8), m = .int .i64 (u : Int) ∧ u ≤ n ∧ s = .string ⟨out.toArray⟩ ∧ nz n = nz u ++ out ∧ Below w.heap.size w wr) (fun m _ _ => (intOf m).toNat)
  case atStart => exact ⟨n, [], rfl, Nat.le_refl _, rfl, by simp, Below.refl _ _⟩
  case round =>
    obtain ⟨u, out, rfl, hu, rfl, hout, hb⟩ := hrel
    have hO := Lib.hid hout
    clear hout
    by_cases hz : u = 0
    · subst hz
      have hz0 : ((0 : Int) != 0) = false := by decide
      go_wp2
      go_ret
      have hE : nz n = out := by
        have := hO.out
        rw [show nz 0 = [] from rfl, List.nil_append] at this
        exact this
      exact ⟨by rw [hE]; rfl, hb⟩
    · have hz0 : ((u : Int) != 0) = true := by simp; omega
      have hb1 : u < 2 ^ 63 := by omega
      have hlen : out.length + 1 ≤ n := by
        have h1 := nz_len n
        have h2 := nz_pos u (by omega)
        rw [hO.out, List.length_append] at h1
        omega
      go_wp2
      go_roundw
      case rel => exact ⟨u / 10, _, by go_num, by omega, rfl, by rw [hO.out, nz_step u (by omega)]; simp, hb.alloc hb.size _⟩
      case measure => simp [intOf]; omega

theorem tmod_neg10 (u : Nat) : (-(u : Int)).tmod 10 = -((u : Int) % 10) := by rw [Int.neg_tmod, Int.tmod_eq_emod_of_nonneg (by omega)]
theorem tdiv_neg10 (u : Nat) : (-(u : Int)).tdiv 10 = -((u : Int) / 10) := by rw [Int.neg_tdiv, Int.tdiv_eq_ediv_of_nonneg (by omega)]

set_option maxHeartbeats 400000 in
set_option maxRecDepth 100000 in
theorem specFormatInt_neg (n : Nat) (w : World) (h0 : 0 < n) (h1 : n ≤ 2 ^ 63) :
    Calls Tryz.prog 48 #[.int .i64 (-(n : Int))] w fun e w' => e = .returned (.string ⟨(45 :: nz n).toArray⟩) ∧ Below w.heap.size w w' := by
  have hn0 : (-(n : Int) == 0) = false := by simp; omega
  have hcv := run_convert_byte (P := Tryz.prog) Tryz.underlying22 Tryz.underlying5 Tryz.underlying9
  go_enter Tryz.func48, Tryz.ntmps48
  go_wp2
  go_loopw [0, 4] (fun m s wr => ∃ (u : Nat) (out : List UInt8), m = .int .i64 (-(u : Int)) ∧ u ≤ n ∧ s = .string ⟨out.toArray⟩ ∧ nz n = nz u ++ out ∧ Below w.heap.size w wr) (fun m _ _ => (intOf m).natAbs)
  case atStart => exact ⟨n, [], rfl, Nat.le_refl _, rfl, by simp, Below.refl _ _⟩
  case round =>
    obtain ⟨u, out, rfl, hu, rfl, hout, hb⟩ := hrel
    have hO := Lib.hid hout
    clear hout
    have hlen0 : out.length ≤ 20 := by
      have h1 := nz_len_of 20 n (by omega)
      rw [hO.out, List.length_append] at h1
      omega
    by_cases hz : u = 0
    · subst hz
      go_wp2
      go_ret
      have hE : nz n = out := by
        have := hO.out
        rw [show nz 0 = [] from rfl, List.nil_append] at this
        exact this
      refine ⟨?_, hb⟩
      rw [hE]
      rfl
    · have hz0 : (-(u : Int) != 0) = true := by simp; omega
      have hb1 : u ≤ 2 ^ 63 := by omega
      have hd := tmod_neg10 u
      have hq := tdiv_neg10 u
      by_cases h10 : (u : Int) % 10 = 0
      · have hD := Lib.hid h10
        have hneg : ¬ -((u : Int) % 10) < 0 := by omega
        clear h10
        go_wp2
        go_roundw
        case rel => exact ⟨u / 10, _, by go_num, by omega, rfl, by rw [hO.out, nz_step u (by omega), show u % 10 = 0 from by have := hD.out; omega, show ((u : Int) % 10) = 0 from hD.out]; simp, hb.alloc hb.size _⟩
        case measure => simp [intOf]; omega
      · have hneg : -((u : Int) % 10) < 0 := by omega
        clear h10
        go_wp2
        go_roundw
        case rel => exact ⟨u / 10, _, by go_num, by omega, rfl, by rw [hO.out, nz_step u (by omega)]; simp, hb.alloc hb.size _⟩
        case measure => simp [intOf]; omega

end Go.Proofs.YtceclhndagoddaaGreatDoor
end

section
namespace Go.Proofs.YtceclhndagoddaaGreatDoor
open Go.RowKit Go.Sort

theorem specFormatInt_any (n : Int) (w : World) (h0 : -(2 ^ 63) ≤ n) (h1 : n ≤ 2 ^ 63 - 1) :
    Calls Tryz.prog 48 #[.int .i64 n] w fun e w' => e = .returned (.string ⟨(Lib.itoa n).toArray⟩) ∧ Below w.heap.size w w' := by
  rcases Int.lt_trichotomy n 0 with h | h | h
  · obtain ⟨u, rfl⟩ : ∃ u : Nat, n = -(u : Int) := ⟨n.natAbs, by omega⟩
    refine (specFormatInt_neg u w (by omega) (by omega)).mono fun e w' ⟨he, hb⟩ => ⟨?_, hb⟩
    rw [he, Lib.itoa, if_pos h, show (-(u : Int)).natAbs = u from by omega, nz, if_neg (by omega)]
  · subst h
    have h00 : ((0 : Int) == 0) = true := by decide
    go_enter Tryz.func48, Tryz.ntmps48
    go_wp2
    go_ret
    refine ⟨?_, Below.refl _ _⟩
    have : (Lib.itoa 0) = [48] := by rw [Lib.itoa, if_neg (by omega), Lib.decDigits, dif_pos (by decide)]; rfl
    rw [this]
    rfl
  · obtain ⟨u, rfl⟩ : ∃ u : Nat, n = (u : Int) := ⟨n.toNat, by omega⟩
    refine (specFormatInt_pos u w (by omega) (by omega)).mono fun e w' ⟨he, hb⟩ => ⟨?_, hb⟩
    rw [he, Lib.itoa, if_neg (by omega), Int.toNat_natCast, nz, if_neg (by omega)]

/-- The table that strconv reads. -/
def Pow10At (w : World) : Prop := Lib.TabIs Tryz.prog w "internal/strconv.uint64pow10" .u64 Lib.pow10Tab

theorem grow_below (w : World) (k : Nat) (os : Array Obj) : Below w.heap.size w (grow (w.drewN k) os) :=
  ⟨rfl, rfl, rfl, by simp [grow], fun i hi => by simp [grow, Array.getElem?_append, hi]⟩

theorem Pow10At.below {w w' : World} {B : Nat} (h : Pow10At w) (hb : Below B w w') (hB : 1 < B) : Pow10At w' := by
  unfold Pow10At Lib.TabIs World.var? at h ⊢
  rw [show Tryz.prog.globalNamed "internal/strconv.uint64pow10" = some 1 by kernel_rfl] at h ⊢
  rw [Option.bind_some] at h ⊢
  rw [hb.block _ hB]
  exact h

theorem implFormatInt_any (n : Int) (w : World) (h0 : -(2 ^ 63) ≤ n) (h1 : n ≤ 2 ^ 63 - 1) (ht : Pow10At w) :
    Calls Tryz.prog 34 #[.int .i64 n] w fun e w' => e = .returned (.string ⟨(Lib.itoa n).toArray⟩) ∧ Below w.heap.size w w' := by
  have hI := Lib.hid (Tryz.strconv_Itoa n (by omega) (by omega) w ht)
  clear ht
  go_enter Tryz.func34, Tryz.ntmps34
  go_wp2_with fail
  refine hI.out.mono ?_
  rintro e w' ⟨rfl, k, os, rfl⟩
  go_wp2
  go_ret
  exact ⟨rfl, grow_below w k os⟩

end Go.Proofs.YtceclhndagoddaaGreatDoor
end
