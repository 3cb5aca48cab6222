/- spec.SplitByte gives the pieces. -/
import Derived.Test.YthplgklegoeelaaDoorProg
import Derived.Test.YthplgklegoeelaaDoorStrs
import Derived.Test.YthplgklegoeelaaDoorSplitLaws
import Derived.BigGuard
import Derived.Deep.DeepMust
namespace Go.Proofs.YthplgklegoeelaaDoor
open Go.RowKit

theorem infoStr : (Tryd.prog.info? 9).map (fun i => (i.zero, i.size, i.bytes)) = some (some (.string ⟨#[]⟩), 1, 16) := by kernel_rfl

/-- A slice of the call's own that holds the strings ss. -/
def OwnStrs (w : World) (ss : List ByteArray) (e : Ending) (w' : World) : Prop :=
  ∃ A c, e = .returned (.slice A ss.length c) ∧ StrsAt w' w'.heap.size A ss ∧ Below w.heap.size w w'

theorem own_form {w : World} {base n : Nat} {e : TypeId} {size : Nat} {v : Value} {xs : List Value} (h : w.ownsRow base e size v n xs) : ∃ A c, v = .slice A n c := by
  rcases h.2 with ⟨rfl, rfl⟩ | ⟨g, cap, cur, rfl, _⟩
  · exact ⟨_, _, rfl⟩
  · exact ⟨_, _, rfl⟩
theorem strsAt_own {w : World} {base n c : Nat} {A : Option Addr} {ss : List ByteArray} (h : w.ownsRow base 9 1 (.slice A n c) n (strVals ss)) : n = ss.length ∧ StrsAt w w.heap.size A ss := by
  have hl : ss.length = n := by simpa [strVals] using h.1
  refine ⟨hl.symm, fun i hi => ?_⟩
  rcases h.2 with ⟨hv, h0⟩ | ⟨g, cap, cur, hv, _, hg, _⟩
  · omega
  · cases hv
    refine ⟨g, 0, rfl, (Array.getElem?_eq_some_iff.1 hg).1, ?_⟩
    have := h.cells (g := g) rfl i (.string ss[i]) (by simp [strVals, hi])
    rw [WideShapes.add_plain] at this
    exact this

theorem cellNew (w : World) (t : TypeId) (x : Value) (j : Nat) (u : Value) (hj : [x][j]? = some u) : (w.alloc (.cells #[x] t)).cell? ((⟨w.heap.size, 0, none⟩ : Addr).add j) = some u := by
  have h0 : j = 0 := by
    have := (List.getElem?_eq_some_iff.1 hj).1
    simp at this
    exact this
  subst h0
  rw [WideShapes.add_plain, World.cell?_alloc_at _ _ _ _ rfl]
  simpa using hj

/-- Where the loop stands: the pieces D are laid, the next begins at f, up to i there is no separator behind f; or all are laid. -/
def SplitAt (c : UInt8) (s : ByteArray) (D : List ByteArray) (f i : Nat) : Prop :=
  D.length ≤ f ∧ ((f ≤ i ∧ i ≤ s.size ∧ splitL c s.data.toList = D.map (·.data.toList) ++ splitL c (s.data.toList.drop f) ∧ c ∉ (s.data.toList.take i).drop f) ∨ (i = s.size + 1 ∧ D = pieces c s))

theorem SplitAt.start (c : UInt8) (s : ByteArray) : SplitAt c s [] 0 0 := ⟨Nat.le_refl _, .inl ⟨Nat.le_refl _, Nat.zero_le _, rfl, by simp⟩⟩
theorem extract_data' (s : ByteArray) (f i : Nat) : (s.extract f i).data.toList = (s.data.toList.take i).drop f := by
  rw [ByteArray.data_extract, Array.toList_extract, List.extract_eq_take_drop, List.drop_take]
theorem SplitAt.hit {c : UInt8} {s : ByteArray} {D : List ByteArray} {f i : Nat} (h : SplitAt c s D f i) (hi : i < s.size) (hc : s[i] = c) : SplitAt c s (D ++ [s.extract f i]) (i + 1) (i + 1) := by
  obtain ⟨h0, ⟨h1, h2, h3, h4⟩ | ⟨h1, _⟩⟩ := h
  · have hl : s.data.toList.length = s.size := by simp
    have hget : s.data.toList[i]'(by omega) = c := by rw [← hc, Array.getElem_toList]; rfl
    have e : s.data.toList.drop f = (s.data.toList.take i).drop f ++ c :: s.data.toList.drop (i + 1) := by
      conv => lhs; rw [← List.take_append_drop i s.data.toList]
      rw [List.drop_append_of_le_length (by rw [List.length_take]; omega), show s.data.toList.drop i = s.data.toList[i]'(by omega) :: s.data.toList.drop (i + 1) from List.drop_eq_getElem_cons (by omega), hget]
    refine ⟨by rw [List.length_append]; simp; omega, .inl ⟨Nat.le_refl _, hi, ?_, ?_⟩⟩
    · rw [h3, e, splitL_hit c _ _ h4, List.map_append, List.map_singleton, extract_data', List.append_assoc]
      rfl
    · rw [List.drop_eq_nil_of_le (by rw [List.length_take]; omega)]
      simp
  · omega
theorem SplitAt.miss {c : UInt8} {s : ByteArray} {D : List ByteArray} {f i : Nat} (h : SplitAt c s D f i) (hi : i < s.size) (hc : s[i] ≠ c) : SplitAt c s D f (i + 1) := by
  obtain ⟨h0, ⟨h1, h2, h3, h4⟩ | ⟨h1, _⟩⟩ := h
  · have hl : s.data.toList.length = s.size := by simp
    refine ⟨h0, .inl ⟨by omega, hi, h3, ?_⟩⟩
    rw [List.take_succ_eq_append_getElem (by omega), List.drop_append_of_le_length (by rw [List.length_take]; omega)]
    intro hm
    rcases List.mem_append.1 hm with hm | hm
    · exact h4 hm
    · apply hc
      rw [List.mem_singleton.1 hm, Array.getElem_toList]
      rfl
  · omega
theorem SplitAt.last {c : UInt8} {s : ByteArray} {D : List ByteArray} {f i : Nat} (h : SplitAt c s D f i) (hi : i = s.size) : SplitAt c s (D ++ [s.extract f i]) (i + 1) (i + 1) := by
  obtain ⟨h0, ⟨h1, h2, h3, h4⟩ | ⟨h1, _⟩⟩ := h
  · have hl : s.data.toList.length = s.size := by simp
    have e : (s.data.toList.take i).drop f = s.data.toList.drop f := by rw [List.take_of_length_le (by omega)]
    rw [e] at h4
    refine ⟨by rw [List.length_append]; simp; omega, .inr ⟨by omega, ?_⟩⟩
    apply map_data_inj
    rw [pieces_data, h3, splitL_none c _ h4, List.map_append, List.map_singleton, extract_data', e]
  · omega
theorem SplitAt.live {c : UInt8} {s : ByteArray} {D : List ByteArray} {f i : Nat} (h : SplitAt c s D f i) (hi : i ≤ s.size) : f ≤ i := by
  obtain ⟨_, ⟨h1, _⟩ | ⟨h1, _⟩⟩ := h <;> omega
theorem SplitAt.done {c : UInt8} {s : ByteArray} {D : List ByteArray} {f i : Nat} (h : SplitAt c s D f i) (hi : ¬ i ≤ s.size) : D = pieces c s := by
  obtain ⟨_, ⟨_, h2, _⟩ | ⟨_, h2⟩⟩ := h
  · omega
  · exact h2
theorem SplitAt.top {c : UInt8} {s : ByteArray} {D : List ByteArray} {f i : Nat} (h : SplitAt c s D f i) : i ≤ s.size + 1 := by
  obtain ⟨_, ⟨_, h2, _⟩ | ⟨h2, _⟩⟩ := h <;> omega

set_option maxHeartbeats 1000000 in
theorem specSplit_any (s : ByteArray) (c : UInt8) (w : World) (hs : s.size ≤ 1048576) :
    Calls Tryd.prog 20 #[.string s, .int .u8 (c.toNat : Int)] w (OwnStrs w (pieces c s)) := by
  obtain ⟨i0, hi, hz0, hz1, hz2⟩ := info_parts infoStr
  go_enter Tryd.func20, Tryd.ntmps20
  go_wp2
  go_loopw [5, 6, 7] (fun v f i wr => ∃ (D : List ByteArray) (fn ii : Nat), f = .int .i64 fn ∧ i = .int .i64 ii ∧ SplitAt c s D fn ii ∧ wr.ownsRow w.heap.size 9 1 v D.length (strVals D) ∧ Below w.heap.size w wr) (fun _ _ i _ => s.size + 2 - (intOf i).toNat)
  case atStart => exact ⟨[], 0, 0, rfl, rfl, SplitAt.start c s, World.ownsRow_lit w #[] 0 (Nat.le_refl _) (Nat.zero_le _) rfl, (Below.refl _ _).alloc (Nat.le_refl _) _⟩
  case round =>
    obtain ⟨D, f, i, rfl, rfl, hS, hown, hb⟩ := hrel
    have hT := hS.top
    have hDf := hS.1
    by_cases hle : i ≤ s.size
    · have hfi := hS.live hle
      have hleI : (i : Int) ≤ (s.size : Int) := by omega
      by_cases heq : i = s.size
      · have hlast := Lib.hid (hS.last heq)
        have heqI : ((i : Int) == (s.size : Int)) = true := by rw [beq_iff_eq]; omega
        clear heq
        go_wp2_with (at_builtin; refine wpList_append_own _ rfl (.tmp 26) (.tmp 31) _ rfl w.heap.size 9 i0 (.string ⟨#[]⟩) 1 16 Tryd.underlying31 hi hz0 hz1 hz2 rfl (by decide) _ _ _ rfl (hown.alloc _) ⟨wr.heap.size, 0, none⟩ 1 1 [.string (s.extract f i)] rfl rfl (cellNew wr 9 _) (by intro u hu; simp at hu; subst hu; rfl) (by unfold maxLen; omega) (by omega) (by have := hb.size; simp; omega) ?_; intro v1 w1 hown1 hg1 _)
        go_roundw
        case rel => exact ⟨_, i + 1, i + 1, by go_num, by go_num, hlast.out, by simpa [strVals] using hown1, (hb.alloc hb.size _).grown hg1 (by have := hb.size; simp; omega) (fun q hq => (hown.lt q hq).1)⟩
        case measure => simp [intOf]; omega
      · have hlt : i < s.size := by omega
        have heqI : ((i : Int) == (s.size : Int)) = false := by rw [beq_eq_false_iff_ne]; omega
        clear heq
        by_cases hc : s[i] = c
        · have hhit := Lib.hid (hS.hit hlt hc)
          have hcI : ((s[i].toNat : Int) == (c.toNat : Int)) = true := by rw [hc]; simp
          clear hc
          go_wp2_with (at_builtin; refine wpList_append_own _ rfl (.tmp 26) (.tmp 31) _ rfl w.heap.size 9 i0 (.string ⟨#[]⟩) 1 16 Tryd.underlying31 hi hz0 hz1 hz2 rfl (by decide) _ _ _ rfl (hown.alloc _) ⟨wr.heap.size, 0, none⟩ 1 1 [.string (s.extract f i)] rfl rfl (cellNew wr 9 _) (by intro u hu; simp at hu; subst hu; rfl) (by unfold maxLen; omega) (by omega) (by have := hb.size; simp; omega) ?_; intro v1 w1 hown1 hg1 _)
          go_roundw
          case rel => exact ⟨_, i + 1, i + 1, by go_num, by go_num, hhit.out, by simpa [strVals] using hown1, (hb.alloc hb.size _).grown hg1 (by have := hb.size; simp; omega) (fun q hq => (hown.lt q hq).1)⟩
          case measure => simp [intOf]; omega
        · have hmiss := Lib.hid (hS.miss hlt hc)
          have hcI : ((s[i].toNat : Int) == (c.toNat : Int)) = false := by
            rw [beq_eq_false_iff_ne]
            intro e
            exact hc (UInt8.toNat_inj.1 (by omega))
          clear hc
          go_wp2
          go_roundw
          case rel => exact ⟨D, f, i + 1, rfl, by go_num, hmiss.out, hown, hb⟩
          case measure => simp [intOf]; omega
    · obtain ⟨A, cp, rfl⟩ := own_form hown
      have hD := Lib.hid (hS.done hle)
      have hleI : ¬ (i : Int) ≤ (s.size : Int) := by omega
      clear hle
      go_wp2
      go_ret
      rw [← hD.out]
      exact ⟨A, cp, rfl, (strsAt_own hown).2, hb⟩

end Go.Proofs.YthplgklegoeelaaDoor
