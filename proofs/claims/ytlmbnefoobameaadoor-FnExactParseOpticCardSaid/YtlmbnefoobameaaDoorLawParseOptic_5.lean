/- Lemmas: SpecTy5, TxtLen, VaIn, SzVa, ToVa, EqVa, SpecVa, SpecVaForm, NumLaws, ReadLaws, Nums, Smalls. -/
import Derived.Test.YtlmbnefoobameaaDoorLawParseOptic_1
import Derived.Test.YtlmbnefoobameaaDoorLawParseOptic_4
import Derived.Deep.RegionHeld3
import Derived.Test.YtlmbnefoobameaaDoorProg
import Derived.Outline
import Derived.Test.YtlmbnefoobameaaDoorLawParseOptic_2
import Derived.Lib.ItoaNum
import Derived.Lib.AtoiAll

section
namespace Go.Proofs.YtlmbnefoobameaaDoor
open Go.RowKit

/-- A bool is handed back; what was there stands. -/
def BoolIs (b : Bool) (w : World) (e : Ending) (w' : World) : Prop := e = .returned (.bool b) ∧ Below w.heap.size w w'

theorem l1In_yes (x lo hi : Int) (w : World) (h1 : lo ≤ x) (h2 : x ≤ hi) : Calls Tryd.prog 88 #[.int .i64 x, .int .i64 lo, .int .i64 hi] w fun e w' => e = .returned (.bool true) ∧ w = w' := by
  go_enter Tryd.func88, Tryd.ntmps88
  go_wp2
  go_ret
  exact ⟨rfl, rfl⟩
theorem l1In_no (x lo hi : Int) (w : World) (h : x < lo ∨ hi < x) : Calls Tryd.prog 88 #[.int .i64 x, .int .i64 lo, .int .i64 hi] w fun e w' => e = .returned (.bool false) ∧ w = w' := by
  by_cases h1 : lo ≤ x
  · have h2 : ¬ x ≤ hi := by omega
    clear h
    go_enter Tryd.func88, Tryd.ntmps88
    go_wp2
    go_ret
    exact ⟨rfl, rfl⟩
  · clear h
    go_enter Tryd.func88, Tryd.ntmps88
    go_wp2
    go_ret
    exact ⟨rfl, rfl⟩

/-- Can they be the labels of a record or a sum? -/
def labelsB (ls : List ByteArray) : Bool := ls.all isNameB && (decide (1 ≤ ls.length) && decide (ls.length ≤ 4)) && ascB ls
theorem labelsB_no (ls : List ByteArray) (k : Nat) (h : k < ls.length) (hn : isNameB ls[k] = false) : labelsB ls = false := by
  have : ls.all isNameB = false := by
    rw [List.all_eq_false]
    exact ⟨_, List.getElem_mem h, by rw [hn]; simp⟩
  unfold labelsB
  rw [this]
  rfl
theorem labelsB_all (ls : List ByteArray) (h : ∀ k, (hk : k < ls.length) → isNameB ls[k] = true) : labelsB ls = ((decide (1 ≤ ls.length) && decide (ls.length ≤ 4)) && ascB ls) := by
  have : ls.all isNameB = true := by
    rw [List.all_eq_true]
    intro x hx
    obtain ⟨i, hi, rfl⟩ := List.getElem_of_mem hx
    exact h i hi
  unfold labelsB
  rw [this, Bool.true_and]

set_option maxHeartbeats 1000000 in
theorem specLabels_any (A : Option Addr) (c : Nat) (ss : List ByteArray) (w : World) (hA : StrsAt w w.heap.size A ss) (hn : ss.length < maxLen) (hs : ∀ i, (h : i < ss.length) → ss[i].size ≤ maxLen) :
    Calls Tryd.prog 89 #[.slice A ss.length c] w (BoolIs (labelsB ss) w) := by
  have hasc := Lib.hid (specAreAscending_any A c w.heap.size ss w hA hn)
  unfold maxLen at hn
  have HS := Lib.hid hs
  clear hs
  go_enter Tryd.func89, Tryd.ntmps89
  go_wp2
  go_loop [3] (fun i => ∃ k : Nat, k ≤ ss.length ∧ i = .int .i64 k ∧ ∀ j, (hj : j < ss.length) → j < k → isNameB ss[j] = true) (fun i => ss.length - (intOf i).toNat)
  case atStart => exact ⟨0, Nat.zero_le _, rfl, fun j _ h => absurd h (by omega)⟩
  case round =>
    obtain ⟨k, hk, rfl, hall⟩ := hrel
    have HA := Lib.hid hall
    clear hall
    by_cases hlt : k < ss.length
    · obtain ⟨b, off, rfl, _, hcell⟩ := hA k hlt
      have hnm := specIsName_any ss[k] w (HS.out k hlt)
      cases hb : isNameB ss[k]
      · have hd := Lib.hid (labelsB_no ss k hlt hb)
        rw [hb] at hnm
        have HN := Lib.hid hnm
        clear hb hnm
        go_wp2_with fail
        refine HN.out.mono ?_
        rintro e w1 ⟨rfl, rfl⟩
        go_wp2
        go_ret
        exact ⟨by rw [hd.out]; rfl, Below.refl _ _⟩
      · rw [hb] at hnm
        have HN := Lib.hid hnm
        have HB := Lib.hid hb
        clear hb hnm
        go_wp2_with fail
        refine HN.out.mono ?_
        rintro e w1 ⟨rfl, rfl⟩
        go_wp2
        go_round
        case rel =>
          refine ⟨k + 1, by omega, by go_num, fun j hj h => ?_⟩
          by_cases e : j = k
          · subst e
            exact HB.out
          · exact HA.out j hj (by omega)
        case measure => simp [intOf]; omega
    · have hd := Lib.hid (labelsB_all ss (fun j hj => HA.out j hj (by omega)))
      by_cases h1 : 1 ≤ ss.length ∧ ss.length ≤ 4
      · have i1 : (1 : Int) ≤ ss.length := by omega
        have i2 : (ss.length : Int) ≤ 4 := by omega
        have he := Lib.hid (show labelsB ss = ascB ss by rw [hd.out]; simp [h1])
        clear h1
        go_wp2_with fail
        refine (l1In_yes _ 1 4 w i1 i2).mono ?_
        rintro e w1 ⟨rfl, rfl⟩
        go_wp2_with fail
        refine hasc.out.mono ?_
        rintro e w1 ⟨rfl, n, rfl⟩
        go_wp2
        go_ret
        exact ⟨by rw [he.out]; rfl, ⟨rfl, rfl, rfl, Nat.le_refl _, fun _ _ => rfl⟩⟩
      · have i1 : (ss.length : Int) < 1 ∨ 4 < (ss.length : Int) := by omega
        have he := Lib.hid (show labelsB ss = false by
          rw [hd.out]
          have : (decide (1 ≤ ss.length) && decide (ss.length ≤ 4)) = false := by
            simp only [Bool.and_eq_false_iff, decide_eq_false_iff_not]
            omega
          rw [this]
          rfl)
        clear h1
        go_wp2_with fail
        refine (l1In_no _ 1 4 w i1).mono ?_
        rintro e w1 ⟨rfl, rfl⟩
        go_wp2
        go_ret
        exact ⟨by rw [he.out]; rfl, Below.refl _ _⟩

/-- Has a node of this kind these labels and so many parts? -/
def nodeB (k : Int) (ls : List ByteArray) (m : Nat) : Bool :=
  if k = 1 ∨ k = 2 then decide (ls.length = 0) && decide (m = 0) else if k = 3 ∨ k = 4 then decide (m = ls.length) && labelsB ls else if k = 5 then decide (ls.length = 0) && decide (m = 1) else false
mutual
/-- Has every node one of the forms? -/
def formTy : Ty → Bool | .mk k ls ts => formTys ts && nodeB k ls ts.length
def formTys : List Ty → Bool | [] => true | t :: r => formTy t && formTys r
end
theorem formTys_all : ∀ (ts : List Ty), (∀ i, (h : i < ts.length) → formTy ts[i] = true) → formTys ts = true
  | [], _ => by rw [formTys]
  | t :: r, h => by
    rw [formTys, show formTy t = true from h 0 (by simp), formTys_all r fun i hi => h (i + 1) (by simpa using hi)]
    rfl
theorem formTys_no : ∀ (ts : List Ty) (i : Nat) (h : i < ts.length), formTy ts[i] = false → formTys ts = false
  | [], i, h, _ => absurd h (by simp)
  | t :: r, 0, _, e => by
    rw [formTys]
    have : formTy t = false := e
    rw [this]
    rfl
  | t :: r, i + 1, h, e => by
    rw [formTys, formTys_no r i (by simpa using h) (by simpa using e), Bool.and_false]

def FormOne (f : Nat) (t : Ty) : Prop := ∀ (v : Value) (w : World), TyAt w w.heap.size v t → szTy t ≤ 1048576 → Calls Tryd.prog f #[v] w (BoolIs (formTy t) w)

set_option maxHeartbeats 4000000 in
theorem specForm_of (k0 : Int) (ls : List ByteArray) (ts : List Ty) (hall : ∀ i, (h : i < ts.length) → FormOne 54 ts[i]) : FormOne 54 (.mk k0 ls ts) := by
  intro v w hv hsz
  have hse := szTy_eq (.mk k0 ls ts)
  have hfe : formTy (.mk k0 ls ts) = (formTys ts && nodeB k0 ls ts.length) := by rw [formTy]
  obtain ⟨L, lc, A, ac, rfl, hn, hz, hl, ha⟩ := hv.open
  simp only [Ty.kind, Ty.labels, Ty.args] at *
  have hm := ha.1
  have hnl : ls.length < maxLen := by unfold maxLen; omega
  unfold maxLen at hm hn
  have hsz2 : szTys ts ≤ 1048576 := by omega
  have HALL := Lib.hid hall
  have HZ2 := Lib.hid hz
  have HFE := Lib.hid hfe
  clear hall hv hz hfe hse
  obtain ⟨hb0, p0, hs0⟩ := boxes1 w 30 #[.int .i64 k0, .slice L ls.length lc, .slice A ts.length ac]
  have ha0 := ha.up hb0
  have hl0 := hl.up' hb0
  have HZ := Lib.hid hs0
  clear ha hl hs0
  go_enter Tryd.func54, Tryd.ntmps54
  go_wp2
  generalize w.alloc (.cells #[.int .i64 k0, .slice L ls.length lc, .slice A ts.length ac] 30) = w0 at *
  have hpl := p0.lt
  go_loopw [3] (fun i wr => ∃ k : Nat, k ≤ ts.length ∧ i = .int .i64 k ∧ (∀ j, (hj : j < ts.length) → j < k → formTy ts[j] = true) ∧ Below w0.heap.size w0 wr) (fun i _ => ts.length - (intOf i).toNat)
  case atStart => exact ⟨0, Nat.zero_le _, rfl, fun j _ h => absurd h (by omega), Below.refl _ _⟩
  case round =>
    obtain ⟨k, hk, rfl, hall, hb⟩ := hrel
    have HA := Lib.hid hall
    clear hall
    have p1 := p0.below hb hpl
    have c2 : wr.cell? ⟨w.heap.size, 2, none⟩ = some (.slice A ts.length ac) := p1.cell 2
    by_cases hlt : k < ts.length
    · obtain ⟨b, off, L1, lc1, A1, ac1, rfl, hbl, q0, q1, q2, _, _, _, _, ht⟩ := (ha0.below hb).elem k hlt
      have hpt := szTy_part ts k hlt
      have HT := HALL.out k hlt _ wr (ht.more hb.size) (by omega)
      cases hfk : formTy ts[k]
      · rw [hfk] at HT
        have HT' := Lib.hid HT
        have hr := Lib.hid (show formTy (.mk k0 ls ts) = false by rw [HFE.out, formTys_no ts k hlt hfk]; rfl)
        clear ht p1 HT hfk
        go_wp2_with fail
        refine HT'.out.mono ?_
        rintro e w1 ⟨rfl, hb1⟩
        go_wp2
        go_ret
        exact ⟨by rw [hr.out]; rfl, hb0.trans ((hb.trans (hb1.mono hb.size)).mono hb0.size)⟩
      · rw [hfk] at HT
        have HT' := Lib.hid HT
        have HK := Lib.hid hfk
        clear ht p1 HT hfk
        go_wp2_with fail
        refine HT'.out.mono ?_
        rintro e w1 ⟨rfl, hb1⟩
        go_wp2
        go_roundw
        case rel =>
          refine ⟨k + 1, by omega, by go_num, fun j hj h => ?_, hb.trans (hb1.mono hb.size)⟩
          by_cases e : j = k
          · subst e
            exact HK.out
          · exact HA.out j hj (by omega)
        case measure => simp [intOf]; omega
    · have hke : k = ts.length := by omega
      subst hke
      have hft := Lib.hid (formTys_all ts fun i hi => HA.out i hi hi)
      have c0 : wr.cell? ⟨w.heap.size, 0, none⟩ = some (.int .i64 k0) := p1.cell 0
      have c1 : wr.cell? ⟨w.heap.size, 1, none⟩ = some (.slice L ls.length lc) := p1.cell 1
      have hb' := hb0.trans (hb.mono hb0.size)
      have hres : Hid (formTy (.mk k0 ls ts) = nodeB k0 ls ts.length) := Lib.hid (by rw [HFE.out, hft.out]; rfl)
      clear p1
      by_cases h12 : k0 = 1 ∨ k0 = 2
      · have hnode : nodeB k0 ls ts.length = (decide (ls.length = 0) && decide (ts.length = 0)) := by unfold nodeB; rw [if_pos h12]
        have HN := Lib.hid hnode
        clear hnode
        by_cases hl1 : ls.length = 0
        · by_cases ht1 : ts.length = 0
          · have hr := Lib.hid (show nodeB k0 ls ts.length = true by rw [HN.out]; simp [hl1, ht1])
            have i1 : ((ls.length : Int) == 0) = true := by rw [beq_iff_eq]; omega
            have i2 : ((ts.length : Int) == 0) = true := by rw [beq_iff_eq]; omega
            clear hl1 ht1
            rcases h12 with rfl | rfl
            all_goals
              go_wp2
              go_ret
              exact ⟨by rw [hres.out, hr.out]; rfl, hb'⟩
          · have hr := Lib.hid (show nodeB k0 ls ts.length = false by rw [HN.out]; simp [ht1])
            have i1 : ((ls.length : Int) == 0) = true := by rw [beq_iff_eq]; omega
            have i2 : ((ts.length : Int) == 0) = false := by rw [beq_eq_false_iff_ne]; omega
            clear hl1 ht1
            rcases h12 with rfl | rfl
            all_goals
              go_wp2
              go_ret
              exact ⟨by rw [hres.out, hr.out]; rfl, hb'⟩
        · have hr := Lib.hid (show nodeB k0 ls ts.length = false by rw [HN.out]; simp [hl1])
          have i1 : ((ls.length : Int) == 0) = false := by rw [beq_eq_false_iff_ne]; omega
          clear hl1
          rcases h12 with rfl | rfl
          all_goals
            go_wp2
            go_ret
            exact ⟨by rw [hres.out, hr.out]; rfl, hb'⟩
      · have e1 : (k0 == 1) = false := by rw [beq_eq_false_iff_ne]; omega
        have e2 : (k0 == 2) = false := by rw [beq_eq_false_iff_ne]; omega
        by_cases h34 : k0 = 3 ∨ k0 = 4
        · have hnode : nodeB k0 ls ts.length = (decide (ts.length = ls.length) && labelsB ls) := by unfold nodeB; rw [if_neg h12, if_pos h34]
          have HN := Lib.hid hnode
          clear hnode h12
          by_cases hlt2 : ts.length = ls.length
          · have hr := Lib.hid (show nodeB k0 ls ts.length = labelsB ls by rw [HN.out]; simp [hlt2])
            have i1 : ((ts.length : Int) == (ls.length : Int)) = true := by rw [beq_iff_eq]; omega
            have hlab := Lib.hid (specLabels_any L lc ls wr (hl0.up' hb) hnl HZ2.out)
            clear hlt2
            rcases h34 with rfl | rfl
            all_goals
              go_wp2_with fail
              refine hlab.out.mono ?_
              rintro e w1 ⟨rfl, hb1⟩
              go_wp2
              go_ret
              exact ⟨by rw [hres.out, hr.out]; rfl, hb'.trans (hb1.mono hb'.size)⟩
          · have hr := Lib.hid (show nodeB k0 ls ts.length = false by rw [HN.out]; simp [hlt2])
            have i1 : ((ts.length : Int) == (ls.length : Int)) = false := by rw [beq_eq_false_iff_ne]; omega
            clear hlt2
            rcases h34 with rfl | rfl
            all_goals
              go_wp2
              go_ret
              exact ⟨by rw [hres.out, hr.out]; rfl, hb'⟩
        · have e3 : (k0 == 3) = false := by rw [beq_eq_false_iff_ne]; omega
          have e4 : (k0 == 4) = false := by rw [beq_eq_false_iff_ne]; omega
          by_cases h5 : k0 = 5
          · have hnode : nodeB k0 ls ts.length = (decide (ls.length = 0) && decide (ts.length = 1)) := by unfold nodeB; rw [if_neg h12, if_neg h34, if_pos h5]
            have HN := Lib.hid hnode
            clear hnode h12 h34
            subst h5
            by_cases hl1 : ls.length = 0
            · have i1 : ((ls.length : Int) == 0) = true := by rw [beq_iff_eq]; omega
              by_cases ht1 : ts.length = 1
              · have hr := Lib.hid (show nodeB 5 ls ts.length = true by rw [HN.out]; simp [hl1, ht1])
                have i2 : ((ts.length : Int) == 1) = true := by rw [beq_iff_eq]; omega
                clear hl1 ht1
                go_wp2
                go_ret
                exact ⟨by rw [hres.out, hr.out]; rfl, hb'⟩
              · have hr := Lib.hid (show nodeB 5 ls ts.length = false by rw [HN.out]; simp [ht1])
                have i2 : ((ts.length : Int) == 1) = false := by rw [beq_eq_false_iff_ne]; omega
                clear hl1 ht1
                go_wp2
                go_ret
                exact ⟨by rw [hres.out, hr.out]; rfl, hb'⟩
            · have hr := Lib.hid (show nodeB 5 ls ts.length = false by rw [HN.out]; simp [hl1])
              have i1 : ((ls.length : Int) == 0) = false := by rw [beq_eq_false_iff_ne]; omega
              clear hl1
              go_wp2
              go_ret
              exact ⟨by rw [hres.out, hr.out]; rfl, hb'⟩
          · have hr := Lib.hid (show nodeB k0 ls ts.length = false by unfold nodeB; rw [if_neg h12, if_neg h34, if_neg h5])
            have e5 : (k0 == 5) = false := by rw [beq_eq_false_iff_ne]; omega
            clear h12 h34 h5
            go_wp2
            go_ret
            exact ⟨by rw [hres.out, hr.out]; rfl, hb'⟩

theorem specForm_any (t : Ty) : FormOne 54 t := by
  induction t using Ty.ind with
  | h k ls ts ih => exact specForm_of k ls ts ih

end Go.Proofs.YtlmbnefoobameaaDoor

namespace Go.Proofs.YtlmbnefoobameaaDoor
open Go.RowKit

/-- The same strings? -/
def textsB (a b : List ByteArray) : Bool := decide (a = b)
theorem textsB_len (a b : List ByteArray) (h : a.length ≠ b.length) : textsB a b = false := by
  unfold textsB
  simp
  exact fun e => h (by rw [e])
theorem textsB_no (a b : List ByteArray) (k : Nat) (h1 : k < a.length) (h2 : k < b.length) (h : a[k] ≠ b[k]) : textsB a b = false := by
  unfold textsB
  simp
  intro e
  subst e
  exact h rfl
theorem textsB_yes (a b : List ByteArray) (hl : a.length = b.length) (h : ∀ k, (h1 : k < a.length) → (h2 : k < b.length) → a[k] = b[k]) : textsB a b = true := by
  unfold textsB
  simp
  exact List.ext_getElem hl h

set_option maxHeartbeats 1000000 in
theorem specTexts_any (A A' : Option Addr) (c c' : Nat) (ss ss' : List ByteArray) (w : World) (hA : StrsAt w w.heap.size A ss) (hA' : StrsAt w w.heap.size A' ss') (hn : ss.length ≤ maxLen) :
    Calls Tryd.prog 50 #[.slice A ss.length c, .slice A' ss'.length c'] w (BoolDrew (textsB ss ss') w) := by
  unfold maxLen at hn
  by_cases hl : ss.length = ss'.length
  · have hneq : ((ss.length : Int) != (ss'.length : Int)) = false := by rw [bne_eq_false_iff_eq]; omega
    have HL := Lib.hid hl
    have hl1 : ss.length ≤ ss'.length := by omega
    clear hl
    go_enter Tryd.func50, Tryd.ntmps50
    go_wp2
    go_loopw [5] (fun i wr => ∃ k : Nat, k ≤ ss.length ∧ i = .int .i64 k ∧ (∀ j, (h1 : j < ss.length) → (h2 : j < ss'.length) → j < k → ss[j] = ss'[j]) ∧ ∃ n, wr = w.drewN n) (fun i _ => ss.length - (intOf i).toNat)
    case atStart => exact ⟨0, Nat.zero_le _, rfl, fun j _ _ h => absurd h (by omega), 0, rfl⟩
    case round =>
      obtain ⟨k, hk, rfl, hall, n, rfl⟩ := hrel
      have HA := Lib.hid hall
      clear hall hneq
      by_cases hlt : k < ss.length
      · obtain ⟨b, off, rfl, hbl, hcell⟩ := hA k hlt
        obtain ⟨b', off', rfl, hbl', hcell'⟩ := hA' k (by omega)
        by_cases he : ss[k] = ss'[k]
        · have hq : (ss[k].toList != ss'[k].toList) = false := by rw [bne_eq_false_iff_eq, he]
          have hq2 : (ss[k].toList == ss'[k].toList) = true := by rw [beq_iff_eq, he]
          have HE := Lib.hid he
          clear he
          go_wp2
          go_quiet (fail)
          go_wp2
          go_roundw
          case rel =>
            refine ⟨k + 1, by omega, by go_num, fun j h1 h2 h => ?_, _, rfl⟩
            by_cases e : j = k
            · subst e
              exact HE.out
            · exact HA.out j h1 h2 (by omega)
          case measure => simp [intOf]; omega
        · have hne : ss[k].toList ≠ ss'[k].toList := by
            rw [ByteArray.toList_eq, ByteArray.toList_eq]
            exact fun e => he (WideShapes.bytes_inj e)
          have hq : (ss[k].toList != ss'[k].toList) = true := by rw [bne_iff_ne]; exact hne
          have hq2 : (ss[k].toList == ss'[k].toList) = false := by rw [beq_eq_false_iff_ne]; exact hne
          have hr := Lib.hid (textsB_no ss ss' k hlt (by omega) he)
          clear he hne
          go_wp2
          go_quiet (fail)
          go_wp2
          go_ret
          exact ⟨by rw [hr.out]; rfl, _, World.drewN_drewN _ _ _⟩
      · have hr := Lib.hid (textsB_yes ss ss' HL.out fun j h1 h2 => HA.out j h1 h2 (by omega))
        go_wp2
        go_ret
        exact ⟨by rw [hr.out]; rfl, n, rfl⟩
  · have hneq : ((ss.length : Int) != (ss'.length : Int)) = true := by rw [bne_iff_ne]; omega
    have hr := Lib.hid (textsB_len ss ss' hl)
    clear hl
    go_enter Tryd.func50, Tryd.ntmps50
    go_wp2
    go_ret
    exact ⟨by rw [hr.out]; rfl, 0, rfl⟩

/-- The same tree? -/
noncomputable def eqTyB (a b : Ty) : Bool := @decide (a = b) (Classical.propDecidable _)
theorem eqTyB_yes {a b : Ty} (h : a = b) : eqTyB a b = true := by unfold eqTyB; simp [h]
theorem eqTyB_no {a b : Ty} (h : a ≠ b) : eqTyB a b = false := by unfold eqTyB; simp [h]
theorem Ty.ext {a b : Ty} (h1 : a.kind = b.kind) (h2 : a.labels = b.labels) (h3 : a.args = b.args) : a = b := by
  cases a; cases b
  simp only [Ty.kind, Ty.labels, Ty.args] at h1 h2 h3
  rw [h1, h2, h3]

def EqualOne (f : Nat) (t : Ty) : Prop := ∀ (t' : Ty) (v v' : Value) (w : World), TyAt w w.heap.size v t → TyAt w w.heap.size v' t' → Calls Tryd.prog f #[v, v'] w (BoolIs (eqTyB t t') w)

end Go.Proofs.YtlmbnefoobameaaDoor

namespace Go.Proofs.YtlmbnefoobameaaDoor
open Go.RowKit

/-- Is it a valid type? -/
def validB (t : Ty) : Bool := decide (sizeTy t ≤ 30) && decide (depthTy t ≤ 8) && formTy t

set_option maxHeartbeats 1000000 in
theorem specValid_any (t : Ty) (v : Value) (w : World) (hv : TyAt w w.heap.size v t) (hsz : szTy t ≤ 1048576) :
    Calls Tryd.prog 21 #[v] w (BoolIs (validB t) w) := by
  have hv0 := hv
  have hss := size_le_sz t
  have HL := Lib.hid (fun W h => specLeft_any t v 30 W h (by omega) (by omega))
  have HD := Lib.hid (fun W h => specDepthOf_any t v W h (by omega))
  have HF := Lib.hid (fun W h => specForm_any t v W h hsz)
  obtain ⟨L, lc, A, ac, rfl, _, _, _, _⟩ := hv.open
  obtain ⟨hb0, p0, hs0⟩ := boxes1 w 30 #[.int .i64 t.kind, .slice L t.labels.length lc, .slice A t.args.length ac]
  have hv1 := hv0.up hb0
  have hpl := p0.lt
  have HZ := Lib.hid hs0
  clear hs0 hv hv0
  go_enter Tryd.func21, Tryd.ntmps21
  go_wp2_with fail
  generalize w.alloc (.cells #[.int .i64 t.kind, .slice L t.labels.length lc, .slice A t.args.length ac] 30) = w0 at *
  refine (HL.out w0 hv1).mono ?_
  rintro e w1 ⟨rfl, hb1⟩
  have hb1' := hb0.trans (hb1.mono hb0.size)
  by_cases h30 : sizeTy t ≤ 30
  · rw [show leftOf 30 (sizeTy t) = 30 - sizeTy t by unfold leftOf; rw [if_neg (by omega)]]
    have i1 : (0 : Int) ≤ 30 - sizeTy t := by omega
    have p1 := p0.below hb1 hpl
    have hv2 := hv1.up hb1
    have c0 : w1.cell? ⟨w.heap.size, 0, none⟩ = some (.int .i64 t.kind) := p1.cell 0
    have c1 : w1.cell? ⟨w.heap.size, 1, none⟩ = some (.slice L t.labels.length lc) := p1.cell 1
    have c2 : w1.cell? ⟨w.heap.size, 2, none⟩ = some (.slice A t.args.length ac) := p1.cell 2
    go_wp2_with fail
    refine (HD.out w1 hv2).mono ?_
    rintro e w2 ⟨rfl, hb2⟩
    have hb2' := hb1'.trans (hb2.mono hb1'.size)
    by_cases h8 : depthTy t ≤ 8
    · have i2 : (depthTy t : Int) ≤ 8 := by omega
      have p2 := p1.below hb2 p1.lt
      have hv3 := hv2.up hb2
      have d0 : w2.cell? ⟨w.heap.size, 0, none⟩ = some (.int .i64 t.kind) := p2.cell 0
      have d1 : w2.cell? ⟨w.heap.size, 1, none⟩ = some (.slice L t.labels.length lc) := p2.cell 1
      have d2 : w2.cell? ⟨w.heap.size, 2, none⟩ = some (.slice A t.args.length ac) := p2.cell 2
      have hr := Lib.hid (show validB t = formTy t by unfold validB; simp [h30, h8])
      clear c0 c1 c2 h30 h8
      go_wp2_with fail
      refine (HF.out w2 hv3).mono ?_
      rintro e w3 ⟨rfl, hb3⟩
      go_wp2
      go_ret
      exact ⟨by rw [hr.out]; rfl, hb2'.trans (hb3.mono hb2'.size)⟩
    · have i2 : ¬ (depthTy t : Int) ≤ 8 := by omega
      have hr := Lib.hid (show validB t = false by unfold validB; simp [h8])
      clear h30 h8
      go_wp2
      go_ret
      exact ⟨by rw [hr.out]; rfl, hb2'⟩
  · rw [show leftOf 30 (sizeTy t) = -1 by unfold leftOf; rw [if_pos (by omega)]]
    have hr := Lib.hid (show validB t = false by unfold validB; simp [h30])
    clear h30
    go_wp2
    go_ret
    exact ⟨by rw [hr.out]; rfl, hb1'⟩

/-- A valid record type of equal parts? -/
noncomputable def uniformB (t : Ty) : Bool := validB t && decide (t.kind = 3) && (match t.args with | [] => true | a :: r => r.all fun b => eqTyB a b)
theorem uniform_no (t : Ty) (k : Nat) (h0 : 0 < t.args.length) (h : k < t.args.length) (hk : 1 ≤ k) (hne : t.args[0] ≠ t.args[k]) : uniformB t = false := by
  unfold uniformB
  cases ha : t.args with
  | nil => rw [ha] at h; simp at h
  | cons a r =>
    have h' : k - 1 < r.length := by rw [ha] at h; simp at h; omega
    have e1 : t.args[0] = a := by simp [ha]
    have e2 : t.args[k] = r[k - 1] := by
      have : t.args[k]? = r[k - 1]? := by
        rw [ha]
        cases k with
        | zero => omega
        | succ k => simp
      rw [List.getElem?_eq_getElem h, List.getElem?_eq_getElem h'] at this
      exact Option.some.inj this
    rw [e1, e2] at hne
    have : (r.all fun b => eqTyB a b) = false := by
      rw [List.all_eq_false]
      exact ⟨_, List.getElem_mem h', by rw [eqTyB_no hne]; simp⟩
    simp [this]
theorem uniform_yes (t : Ty) (hv : validB t = true) (hk : t.kind = 3) (h : ∀ k, (hk : k < t.args.length) → 1 ≤ k → t.args[0]'(by omega) = t.args[k]) : uniformB t = true := by
  unfold uniformB
  rw [hv]
  cases ha : t.args with
  | nil => simp [hk]
  | cons a r =>
    have : (r.all fun b => eqTyB a b) = true := by
      rw [List.all_eq_true]
      intro b hb
      obtain ⟨i, hi, rfl⟩ := List.getElem_of_mem hb
      have := h (i + 1) (by rw [ha]; simpa using hi) (by omega)
      apply eqTyB_yes
      simpa [ha] using this
    simp [hk, this]

end Go.Proofs.YtlmbnefoobameaaDoor
end

section
namespace Go.Proofs.YtlmbnefoobameaaDoor
open Go.RowKit

def commas : List (List UInt8) → List UInt8
  | [] => []
  | [a] => a
  | a :: b :: r => a ++ 44 :: commas (b :: r)
def lab : List ByteArray → List (List UInt8) → List (List UInt8)
  | l :: ls, x :: xs => (l.data.toList ++ 58 :: x) :: lab ls xs
  | _, _ => []
def nodeTxt (k : Int) (ls : List ByteArray) (xs : List (List UInt8)) : List UInt8 :=
  if k = 1 then [73] else if k = 2 then [66] else if k = 3 then 123 :: (commas (lab ls xs) ++ [125]) else if k = 4 then 60 :: (commas (lab ls xs) ++ [62]) else 91 :: (xs.headD [] ++ [93])
mutual
/-- The text of a tree. -/
def txt : Ty → List UInt8 | .mk k ls ts => nodeTxt k ls (txts ts)
def txts : List Ty → List (List UInt8) | [] => [] | t :: r => txt t :: txts r
end
theorem txts_map : ∀ (ts : List Ty), txts ts = ts.map txt
  | [] => by rw [txts]; rfl
  | t :: r => by rw [txts, txts_map r]; rfl

/-- A letter or digit. -/
def wordC (c : UInt8) : Bool := (decide (48 ≤ c.toNat) && decide (c.toNat ≤ 57)) || (decide (97 ≤ c.toNat) && decide (c.toNat ≤ 122))
/-- The first byte is c: what comes behind it. -/
def eat (c : UInt8) : List UInt8 → Option (List UInt8)
  | [] => none
  | x :: r => if x = c then some r else none
theorem eat_some {c : UInt8} {l r : List UInt8} (h : eat c l = some r) : l = c :: r := by
  cases l with
  | nil => cases h
  | cons x q =>
    by_cases e : x = c
    · rw [eat, if_pos e] at h
      injection h with h
      rw [e, h]
    · rw [eat, if_neg e] at h
      cases h
theorem eat_cons (c : UInt8) (r : List UInt8) : eat c (c :: r) = some r := by simp [eat]
theorem eat_other {c x : UInt8} (r : List UInt8) (h : x ≠ c) : eat c (x :: r) = none := by simp [eat, h]

/-- Labels with parts, as far as commas stand between. -/
def rdLab (f : List UInt8 → Option (Ty × List UInt8)) : Nat → List UInt8 → Option (List ByteArray × List Ty × List UInt8)
  | 0, _ => none
  | n + 1, l =>
    match eat 58 (l.dropWhile wordC) with
    | none => none
    | some r =>
      match f r with
      | none => none
      | some (t, r1) =>
        match eat 44 r1 with
        | none => some ([⟨(l.takeWhile wordC).toArray⟩], [t], r1)
        | some r2 =>
          match rdLab f n r2 with
          | none => none
          | some (ls, ts, q) => some (⟨(l.takeWhile wordC).toArray⟩ :: ls, t :: ts, q)
def rdBox (f : List UInt8 → Option (Ty × List UInt8)) (k : Int) (e : UInt8) (l : List UInt8) : Option (Ty × List UInt8) :=
  match rdLab f (l.length + 1) l with
  | none => none
  | some (ls, ts, q) => match eat e q with
    | none => none
    | some r => some (.mk k ls ts, r)
/-- A tree of n levels at most is read. -/
def rdTy : Nat → List UInt8 → Option (Ty × List UInt8)
  | 0, _ => none
  | n + 1, l =>
    match eat 73 l with
    | some r => some (.mk 1 [] [], r)
    | none => match eat 66 l with
      | some r => some (.mk 2 [] [], r)
      | none => match eat 123 l with
        | some r => rdBox (rdTy n) 3 125 r
        | none => match eat 60 l with
          | some r => rdBox (rdTy n) 4 62 r
          | none => match eat 91 l with
            | none => none
            | some r => match rdTy n r with
              | none => none
              | some (t, r1) => match eat 93 r1 with
                | none => none
                | some r2 => some (.mk 5 [] [t], r2)

/-- What is read is the text of what it is read as, and no shorter than the tree. -/
def Sound (f : List UInt8 → Option (Ty × List UInt8)) : Prop := ∀ l t r, f l = some (t, r) → l = txt t ++ r ∧ szTy t + 1 ≤ (txt t).length
theorem rdLab_sound {f : List UInt8 → Option (Ty × List UInt8)} (hf : Sound f) : ∀ (n : Nat) (l : List UInt8) (ls : List ByteArray) (ts : List Ty) (q : List UInt8), rdLab f n l = some (ls, ts, q) →
    l = commas (lab ls (txts ts)) ++ q ∧ ls.length = ts.length ∧ ls ≠ [] ∧ ls.length + sumSizes ls + szTys ts ≤ (commas (lab ls (txts ts))).length + 1 := by
  intro n
  induction n with
  | zero =>
    intro l ls ts q h
    cases h
  | succ n ih =>
    intro l ls ts q h
    rw [rdLab] at h
    split at h
    · cases h
    · rename_i r hr
      split at h
      · cases h
      · rename_i t r1 ht
        obtain ⟨e1, e2⟩ := hf _ _ _ ht
        have hl : l = (⟨(l.takeWhile wordC).toArray⟩ : ByteArray).data.toList ++ 58 :: (txt t ++ r1) := by
          have h1 := eat_some hr
          rw [e1] at h1
          rw [← h1]
          exact (List.takeWhile_append_dropWhile).symm
        generalize (⟨(l.takeWhile wordC).toArray⟩ : ByteArray) = b at *
        have hbl : b.data.toList.length = b.size := by simp
        split at h
        · cases h
          refine ⟨?_, rfl, by simp, ?_⟩
          · rw [hl]
            simp [lab, txts, commas]
          · simp only [lab, txts, commas, List.length_append, List.length_cons, szTys, List.length_nil, sumSizes, List.map_cons, List.map_nil, List.sum_cons, List.sum_nil]
            omega
        · rename_i r2 hr2
          split at h
          · cases h
          · rename_i ls' ts' q' hq
            cases h
            obtain ⟨i1, i2, i3, i4⟩ := ih _ _ _ _ hq
            have hr3 := eat_some hr2
            obtain ⟨x, xs, hx⟩ : ∃ x xs, lab ls' (txts ts') = x :: xs := by
              cases ls' with
              | nil => exact absurd rfl i3
              | cons a aq =>
                cases ts' with
                | nil => simp at i2
                | cons u us => exact ⟨_, _, rfl⟩
            rw [hx] at i1 i4
            refine ⟨?_, by simp [i2], by simp, ?_⟩
            · rw [hl, hr3, i1]
              simp [lab, txts, commas, hx]
            · simp only [lab, txts, commas, hx, List.length_append, List.length_cons, szTys, sumSizes, List.map_cons, List.sum_cons] at i4 ⊢
              omega
theorem rdBox_sound {f : List UInt8 → Option (Ty × List UInt8)} (hf : Sound f) (k : Int) (e a : UInt8) (l : List UInt8) (t : Ty) (r : List UInt8) (hk : ∀ ls xs, nodeTxt k ls xs = a :: (commas (lab ls xs) ++ [e])) (h : rdBox f k e l = some (t, r)) :
    a :: l = txt t ++ r ∧ szTy t + 1 ≤ (txt t).length := by
  unfold rdBox at h
  split at h
  · cases h
  · rename_i ls ts q hq
    split at h
    · cases h
    · rename_i r' hr
      cases h
      obtain ⟨h1, h2, _, h3⟩ := rdLab_sound hf _ _ _ _ _ hq
      have h4 := eat_some hr
      rw [txt, hk, szTy]
      refine ⟨?_, ?_⟩
      · rw [h1, h4]
        simp
      · simp only [List.length_cons, List.length_append, List.length_nil]
        omega
theorem rdTy_sound (n : Nat) : Sound (rdTy n) := by
  induction n with
  | zero =>
    intro l t r h
    cases h
  | succ n ih =>
    intro l t r h
    rw [rdTy] at h
    split at h
    · rename_i r' hr
      cases h
      rw [eat_some hr]
      simp [txt, nodeTxt, szTy, szTys, sumSizes]
    · split at h
      · rename_i r' hr
        cases h
        rw [eat_some hr]
        simp [txt, nodeTxt, szTy, szTys, sumSizes]
      · split at h
        · rename_i r' hr
          rw [eat_some hr]
          exact rdBox_sound ih 3 125 123 _ _ _ (fun _ _ => by simp [nodeTxt]) h
        · split at h
          · rename_i r' hr
            rw [eat_some hr]
            exact rdBox_sound ih 4 62 60 _ _ _ (fun _ _ => by simp [nodeTxt]) h
          · split at h
            · cases h
            · rename_i r' hr
              split at h
              · cases h
              · rename_i t1 r1 ht
                split at h
                · cases h
                · rename_i r2 hr2
                  cases h
                  obtain ⟨e1, e2⟩ := ih _ _ _ ht
                  rw [eat_some hr, e1, eat_some hr2]
                  refine ⟨by simp [txt, nodeTxt, txts], ?_⟩
                  simp only [txt, nodeTxt, txts, szTy, szTys, sumSizes] at e2 ⊢
                  simp
                  omega

theorem name_word (s : ByteArray) (h : isNameB s = true) : ∀ c ∈ s.data.toList, wordC c = true := by
  intro c hc
  unfold isNameB at h
  simp only [Bool.and_eq_true, List.all_eq_true, List.mem_range] at h
  obtain ⟨i, hi, rfl⟩ := List.getElem_of_mem hc
  have hi' : i < s.size := by simpa using hi
  have h1 := h.1.1 i hi'
  have h2 : s.data.getD i 0 = s.data.toList[i] := by
    rw [Array.getD, dif_pos (show i < s.data.size from hi')]
    simp
  rw [h2] at h1
  unfold nameAt at h1
  unfold wordC
  simp only [Bool.or_eq_true, Bool.and_eq_true, decide_eq_true_eq] at h1 ⊢
  omega
theorem word_taken (s : ByteArray) (h : isNameB s = true) (r : List UInt8) : (s.data.toList ++ 58 :: r).takeWhile wordC = s.data.toList ∧ (s.data.toList ++ 58 :: r).dropWhile wordC = 58 :: r := by
  have hw := name_word s h
  generalize s.data.toList = l at *
  induction l with
  | nil => simp [wordC]
  | cons a q ih =>
    have h1 := ih fun c hc => hw c (by simp [hc])
    have h2 := hw a (by simp)
    simp [h2, h1]

/-- Every tree of the class is read from its text. -/
def Reads (f : List UInt8 → Option (Ty × List UInt8)) (t : Ty) : Prop := ∀ r, f (txt t ++ r) = some (t, r)
theorem rdLab_full {f : List UInt8 → Option (Ty × List UInt8)} : ∀ (ls : List ByteArray) (ts : List Ty), ls.length = ts.length → ls ≠ [] → (∀ l ∈ ls, isNameB l = true) → (∀ t ∈ ts, Reads f t) → ∀ (n : Nat) (e : UInt8) (r : List UInt8), e ≠ 44 → ls.length ≤ n →
    rdLab f n (commas (lab ls (txts ts)) ++ e :: r) = some (ls, ts, e :: r) := by
  intro ls
  induction ls with
  | nil => intro ts _ h; exact absurd rfl h
  | cons a aq ih =>
    intro ts hl _ hn hr n e r he hlen
    cases ts with
    | nil => simp at hl
    | cons u us =>
      cases n with
      | zero => simp at hlen
      | succ n =>
        have hal := hn a (by simp)
        have hru := hr u (by simp)
        cases aq with
        | nil =>
          cases us with
          | cons _ _ => simp at hl
          | nil =>
            have hw := word_taken a hal (txt u ++ e :: r)
            have e1 : commas (lab [a] (txts [u])) ++ e :: r = a.data.toList ++ 58 :: (txt u ++ e :: r) := by simp [lab, txts, commas]
            rw [e1, rdLab, hw.2, hw.1, eat_cons]
            simp only [hru (e :: r), eat_other r he]
        | cons b bs =>
          cases us with
          | nil => simp at hl
          | cons v vs =>
            have e1 : commas (lab (a :: b :: bs) (txts (u :: v :: vs))) ++ e :: r = a.data.toList ++ 58 :: (txt u ++ 44 :: (commas (lab (b :: bs) (txts (v :: vs))) ++ e :: r)) := by simp [lab, txts, commas]
            have hw := word_taken a hal (txt u ++ 44 :: (commas (lab (b :: bs) (txts (v :: vs))) ++ e :: r))
            have h1 := ih (v :: vs) (by simpa using hl) (by simp) (fun l h => hn l (by simp [h])) (fun t h => hr t (by simp [h])) n e r he (by simpa using hlen)
            rw [e1, rdLab, hw.2, hw.1, eat_cons]
            simp only [show ∀ q, f (txt u ++ q) = some (u, q) from hru, eat_cons, h1]
theorem lab_len : ∀ (ls : List ByteArray) (ts : List Ty), ls.length = ts.length → ls.length ≤ (commas (lab ls (txts ts))).length
  | [], _, _ => Nat.zero_le _
  | [a], [], h => by simp at h
  | [a], [u], _ => by
    simp [lab, txts, commas]
    omega
  | [a], _ :: _ :: _, h => by simp at h
  | a :: b :: bs, [], h => by simp at h
  | a :: b :: bs, [_], h => by simp at h
  | a :: b :: bs, u :: v :: vs, h => by
    have := lab_len (b :: bs) (v :: vs) (by simpa using h)
    simp only [lab, txts, commas, List.length_append, List.length_cons] at this ⊢
    omega
theorem labelsB_names {ls : List ByteArray} (h : labelsB ls = true) : ∀ l ∈ ls, isNameB l = true := by
  unfold labelsB at h
  simp only [Bool.and_eq_true, List.all_eq_true] at h
  exact h.1.1
theorem labelsB_some {ls : List ByteArray} (h : labelsB ls = true) : ls ≠ [] := by
  unfold labelsB at h
  simp only [Bool.and_eq_true, decide_eq_true_eq] at h
  intro e
  rw [e] at h
  simp at h
theorem formTys_mem : ∀ {ts : List Ty}, formTys ts = true → ∀ t ∈ ts, formTy t = true
  | [], _, t, h => by cases h
  | a :: r, h, t, ht => by
    rw [formTys, Bool.and_eq_true] at h
    rcases List.mem_cons.1 ht with rfl | h2
    · exact h.1
    · exact formTys_mem h.2 t h2
theorem depthTys_mem : ∀ {ts : List Ty} {n : Nat}, depthTys ts ≤ n → ∀ t ∈ ts, depthTy t ≤ n
  | [], _, _, t, h => by cases h
  | a :: r, n, h, t, ht => by
    rw [depthTys] at h
    rcases List.mem_cons.1 ht with rfl | h2
    · omega
    · exact depthTys_mem (by omega) t h2
theorem rdTy_full (n : Nat) : ∀ (t : Ty), formTy t = true → depthTy t ≤ n → Reads (rdTy n) t := by
  induction n with
  | zero =>
    intro t _ h
    rw [depthTy_eq] at h
    omega
  | succ n ih =>
    intro t hf hd r
    cases t with
    | mk k ls ts =>
      rw [formTy, Bool.and_eq_true] at hf
      rw [depthTy] at hd
      have hts : ∀ t ∈ ts, Reads (rdTy n) t := fun t ht => ih t (formTys_mem hf.1 t ht) (depthTys_mem (by omega) t ht)
      have hnode := hf.2
      unfold nodeB at hnode
      have box : ∀ (e : UInt8), e ≠ 44 → labelsB ls = true → ls.length = ts.length → rdBox (rdTy n) k e (commas (lab ls (txts ts)) ++ e :: r) = some (.mk k ls ts, r) := fun e he hl hlt => by
        have h1 := rdLab_full ls ts hlt (labelsB_some hl) (labelsB_names hl) hts ((commas (lab ls (txts ts)) ++ e :: r).length + 1) e r he (by have := lab_len ls ts hlt; rw [List.length_append]; omega)
        unfold rdBox
        rw [h1]
        simp only [eat_cons]
      rw [txt]
      by_cases h1 : k = 1 ∨ k = 2
      · rw [if_pos h1] at hnode
        simp only [Bool.and_eq_true, decide_eq_true_eq] at hnode
        obtain ⟨rfl, rfl⟩ : ls = [] ∧ ts = [] := ⟨List.eq_nil_of_length_eq_zero hnode.1, List.eq_nil_of_length_eq_zero hnode.2⟩
        rcases h1 with rfl | rfl
        · simp [nodeTxt, rdTy, eat]
        · simp [nodeTxt, rdTy, eat]
      · rw [if_neg h1] at hnode
        by_cases h2 : k = 3 ∨ k = 4
        · rw [if_pos h2] at hnode
          simp only [Bool.and_eq_true, decide_eq_true_eq] at hnode
          rcases h2 with rfl | rfl
          · have := box 125 (by decide) hnode.2 hnode.1.symm
            simp [nodeTxt, rdTy, eat, this]
          · have := box 62 (by decide) hnode.2 hnode.1.symm
            simp [nodeTxt, rdTy, eat, this]
        · rw [if_neg h2] at hnode
          by_cases h3 : k = 5
          · rw [if_pos h3] at hnode
            simp only [Bool.and_eq_true, decide_eq_true_eq] at hnode
            obtain rfl : ls = [] := List.eq_nil_of_length_eq_zero hnode.1
            obtain ⟨t, rfl⟩ := List.length_eq_one_iff.1 hnode.2
            subst h3
            have := hts t (by simp) (93 :: r)
            simp [nodeTxt, rdTy, eat, txts, this]
          · rw [if_neg h3] at hnode
            cases hnode

/-- The tree of a text: valid, with this text. -/
def parseB (s : ByteArray) : Option Ty :=
  match rdTy 8 s.data.toList with
  | some (t, []) => if validB t then some t else none
  | _ => none
theorem parseB_some {s : ByteArray} {t : Ty} (h : parseB s = some t) : validB t = true ∧ txt t = s.data.toList := by
  unfold parseB at h
  split at h
  · rename_i t' e
    split at h
    · cases h
      have := (rdTy_sound 8 _ _ _ e).1
      simp_all
    · cases h
  · cases h
theorem parseB_of {s : ByteArray} {t : Ty} (hv : validB t = true) (ht : txt t = s.data.toList) : parseB s = some t := by
  have h := hv
  unfold validB at h
  simp only [Bool.and_eq_true, decide_eq_true_eq] at h
  have h1 := rdTy_full 8 t h.2 h.1.2 []
  rw [List.append_nil, ht] at h1
  unfold parseB
  rw [h1]
  simp [hv]
theorem parseB_none {s : ByteArray} (h : ∀ t, validB t = true → txt t = s.data.toList → False) : parseB s = none := by
  cases hp : parseB s with
  | none => rfl
  | some t => exact (h t (parseB_some hp).1 (parseB_some hp).2).elim

/-- The text of a tree, if it is valid. -/
def formatB (t : Ty) : ByteArray := if validB t then ⟨(txt t).toArray⟩ else ⟨#[]⟩

end Go.Proofs.YtlmbnefoobameaaDoor

namespace Go.Proofs.YtlmbnefoobameaaDoor
open Go.RowKit

def sumLens (xs : List (List UInt8)) : Nat := (xs.map List.length).sum
theorem commas_len : ∀ (xs : List (List UInt8)), (commas xs).length ≤ sumLens xs + xs.length
  | [] => Nat.le_refl _
  | [a] => by simp [commas, sumLens]
  | a :: b :: r => by
    have := commas_len (b :: r)
    simp only [commas, sumLens, List.map_cons, List.sum_cons, List.length_append, List.length_cons] at this ⊢
    omega
theorem commas_snoc : ∀ (xs : List (List UInt8)) (a : List UInt8), xs ≠ [] → commas (xs ++ [a]) = commas xs ++ 44 :: a
  | [], _, h => absurd rfl h
  | [x], a, _ => rfl
  | x :: y :: r, a, _ => by
    have := commas_snoc (y :: r) a (by simp)
    rw [List.cons_append] at this
    show x ++ 44 :: commas (y :: (r ++ [a])) = (x ++ 44 :: commas (y :: r)) ++ 44 :: a
    rw [this]
    simp
def bytesOf (xs : List (List UInt8)) : List ByteArray := xs.map fun x => ⟨x.toArray⟩
theorem join_commas (xs : List (List UInt8)) : ∀ (k : Nat), k ≤ xs.length → joinTo (bytesOf xs) ⟨#[44]⟩ k = commas (xs.take k)
  | 0, _ => by simp [joinTo, commas]
  | k + 1, h => by
    have h1 := join_commas xs k (by omega)
    have h2 : (bytesOf xs).getD k ⟨#[]⟩ = ⟨xs[k].toArray⟩ := by simp [bytesOf, show k < xs.length by omega]
    rw [joinTo, h1, h2, List.take_succ_eq_append_getElem (by omega)]
    by_cases hk : 0 < k
    · rw [if_pos hk, commas_snoc _ _ (by intro e; have e2 := congrArg List.length e; rw [List.length_take, List.length_nil] at e2; omega)]
      simp
    · obtain rfl : k = 0 := by omega
      simp [commas]
theorem bytesOf_sum : ∀ (xs : List (List UInt8)), sumSizes (bytesOf xs) = sumLens xs
  | [] => rfl
  | a :: r => by
    have := bytesOf_sum r
    simp only [bytesOf, sumSizes, sumLens, List.map_cons, List.sum_cons] at this ⊢
    rw [this]
    rfl

theorem name_len {s : ByteArray} (h : isNameB s = true) : s.size ≤ 4 := by
  unfold isNameB at h
  simp only [Bool.and_eq_true, decide_eq_true_eq] at h
  exact h.2
theorem lab_sum : ∀ (ls : List ByteArray) (xs : List (List UInt8)), (∀ l ∈ ls, l.size ≤ 4) → sumLens (lab ls xs) ≤ sumLens xs + 5 * xs.length ∧ (lab ls xs).length ≤ xs.length
  | [], xs, _ => by simp [lab, sumLens]
  | _ :: _, [], _ => by simp [lab, sumLens]
  | l :: ls, x :: xs, h => by
    have h1 := lab_sum ls xs fun l hl => h l (by simp [hl])
    have h2 := h l (by simp)
    have h3 : l.data.toList.length = l.size := by simp
    simp only [lab, sumLens, List.map_cons, List.sum_cons, List.length_append, List.length_cons] at h1 ⊢
    omega
theorem lab_same : ∀ (ls : List ByteArray) (xs : List (List UInt8)), ls.length = xs.length → (lab ls xs).length = ls.length
  | [], _, _ => rfl
  | _ :: _, [], h => by simp at h
  | l :: ls, x :: xs, h => by simp [lab, lab_same ls xs (by simpa using h)]
theorem lab_get : ∀ (ls : List ByteArray) (xs : List (List UInt8)) (k : Nat) (h1 : k < ls.length) (h2 : k < xs.length) (h3 : k < (lab ls xs).length), (lab ls xs)[k] = ls[k].data.toList ++ 58 :: xs[k]
  | [], _, _, h, _, _ => by simp at h
  | _ :: _, [], _, _, h, _ => by simp at h
  | l :: ls, x :: xs, 0, _, _, _ => rfl
  | l :: ls, x :: xs, k + 1, h1, h2, h3 => lab_get ls xs k (by simpa using h1) (by simpa using h2) (by simpa [lab] using h3)
theorem txts_sum : ∀ (ts : List Ty), (∀ i, (h : i < ts.length) → (txt ts[i]).length + 6 ≤ 8 * sizeTy ts[i]) → sumLens (txts ts) + 6 * ts.length ≤ 8 * sizeTys ts ∧ (txts ts).length = ts.length
  | [], _ => by simp [txts, sumLens, sizeTys]
  | t :: r, h => by
    have h1 := txts_sum r fun i hi => h (i + 1) (by simpa using hi)
    have h2 := h 0 (by simp)
    simp only [txts, sumLens, sizeTys, List.map_cons, List.sum_cons, List.length_cons, List.getElem_cons_zero] at h1 h2 ⊢
    omega
theorem formTys_get {ts : List Ty} (h : formTys ts = true) (i : Nat) (hi : i < ts.length) : formTy ts[i] = true := formTys_mem h _ (List.getElem_mem hi)
theorem txt_len (t : Ty) : formTy t = true → (txt t).length + 6 ≤ 8 * sizeTy t := by
  induction t using Ty.ind with
  | h k ls ts ih =>
    intro hf
    rw [formTy, Bool.and_eq_true] at hf
    obtain ⟨h1, h2⟩ := txts_sum ts fun i hi => ih i hi (formTys_get hf.1 i hi)
    have hn := hf.2
    unfold nodeB at hn
    rw [txt, sizeTy]
    unfold nodeTxt
    split at hn
    · rename_i h12
      split
      · simp
        omega
      · split
        · simp
          omega
        · omega
    · rename_i h12
      rw [if_neg (by omega), if_neg (by omega)]
      split at hn
      · rename_i h34
        simp only [Bool.and_eq_true, decide_eq_true_eq] at hn
        have h3 := lab_sum ls (txts ts) fun l hl => name_len (labelsB_names hn.2 l hl)
        have h4 := commas_len (lab ls (txts ts))
        split
        · simp only [List.length_cons, List.length_append, List.length_nil]
          omega
        · rw [if_pos (by omega)]
          simp only [List.length_cons, List.length_append, List.length_nil]
          omega
      · rename_i h34
        rw [if_neg (by omega), if_neg (by omega)]
        have hh : (txts ts).headD [] = [] ∨ ((txts ts).headD []).length ≤ sumLens (txts ts) := by
          cases txts ts with
          | nil => exact .inl rfl
          | cons a r => exact .inr (by simp [sumLens])
        have hn1 : ts.length = 1 := by
          split at hn
          · simp only [Bool.and_eq_true, decide_eq_true_eq] at hn
            exact hn.2
          · cases hn
        simp only [List.length_cons, List.length_append, List.length_nil]
        rcases hh with hh | hh
        · rw [hh]
          simp
          omega
        · omega

end Go.Proofs.YtlmbnefoobameaaDoor
end

section
namespace Go.Proofs.YtlmbnefoobameaaDoor
open Go.RowKit

inductive Va where
  | mk (k n : Int) (nm : ByteArray) (ls : List ByteArray) (ts : List Va)

def Va.kind : Va → Int | .mk k _ _ _ _ => k
def Va.num : Va → Int | .mk _ n _ _ _ => n
def Va.name : Va → ByteArray | .mk _ _ nm _ _ => nm
def Va.labels : Va → List ByteArray | .mk _ _ _ ls _ => ls
def Va.args : Va → List Va | .mk _ _ _ _ ts => ts

theorem Va.ind {P : Va → Prop} (h : ∀ k n nm ls (ts : List Va), (∀ i, (hi : i < ts.length) → P ts[i]) → P (.mk k n nm ls ts)) (t : Va) : P t :=
  Va.rec (motive_1 := P) (motive_2 := fun ts => ∀ i, (hi : i < ts.length) → P ts[i]) h (fun i hi => absurd hi (Nat.not_lt_zero i))
    (fun a r ha hr i hi => match i, hi with | 0, _ => ha | i + 1, hi => hr i (Nat.lt_of_succ_lt_succ hi)) t

/-- The value reads as the tree; all that is read lies below block B. -/
inductive VaAt (w : World) (B : Nat) : Value → Va → Prop where
  | mk {k n : Int} {nm : ByteArray} {ls : List ByteArray} {ts : List Va} {L A : Option Addr} {lc ac : Nat} (vs : Nat → Value) (hnm : nm.size ≤ maxLen) (hn : ls.length ≤ maxLen) (hz : ∀ i, (h : i < ls.length) → ls[i].size ≤ maxLen) (hm : ts.length ≤ maxLen) (hls : StrsAt w B L ls) (hes : ElemsAt 5 w B A ts.length vs)
      (hks : ∀ i, (hi : i < ts.length) → VaAt w B (vs i) ts[i]) : VaAt w B (.agg #[.int .i64 k, .int .i64 n, .string nm, .slice L ls.length lc, .slice A ts.length ac]) (.mk k n nm ls ts)

theorem VaAt.keep {w w' : World} {B : Nat} {v : Value} {t : Va} (h : VaAt w B v t) (hk : ∀ p : Addr, p.block < B → w'.cell? p = w.cell? p) : VaAt w' B v t := by
  induction h with
  | mk vs hnm hn hz hm hls hes _ ih => exact .mk vs hnm hn hz hm (hls.keep hk) (hes.keep hk) ih
theorem VaAt.more {w : World} {B B' : Nat} {v : Value} {t : Va} (h : VaAt w B v t) (hB : B ≤ B') : VaAt w B' v t := by
  induction h with
  | mk vs hnm hn hz hm hls hes _ ih => exact .mk vs hnm hn hz hm (hls.more hB) (hes.more hB) ih
theorem VaAt.lift {w w' : World} {B : Nat} {v : Value} {t : Va} (h : VaAt w B v t) (hb : Below B w w') : VaAt w' B v t := h.keep fun _ hp => hb.cell hp
theorem VaAt.up {w w' : World} {v : Value} {t : Va} (h : VaAt w w.heap.size v t) (hb : Below w.heap.size w w') : VaAt w' w'.heap.size v t := (h.lift hb).more hb.size

/-- The slice (A, length, c) reads as the list of trees. -/
def VasAt (w : World) (B : Nat) (A : Option Addr) (ts : List Va) : Prop := ts.length ≤ maxLen ∧ ∃ vs : Nat → Value, ElemsAt 5 w B A ts.length vs ∧ ∀ i, (hi : i < ts.length) → VaAt w B (vs i) ts[i]
theorem VasAt.keep {w w' : World} {B : Nat} {A : Option Addr} {ts : List Va} (h : VasAt w B A ts) (hk : ∀ p : Addr, p.block < B → w'.cell? p = w.cell? p) : VasAt w' B A ts := by
  obtain ⟨h0, vs, h1, h2⟩ := h
  exact ⟨h0, vs, h1.keep hk, fun i hi => (h2 i hi).keep hk⟩
theorem VasAt.more {w : World} {B B' : Nat} {A : Option Addr} {ts : List Va} (h : VasAt w B A ts) (hB : B ≤ B') : VasAt w B' A ts := by
  obtain ⟨h0, vs, h1, h2⟩ := h
  exact ⟨h0, vs, h1.more hB, fun i hi => (h2 i hi).more hB⟩
theorem VasAt.below {w w' : World} {B : Nat} {A : Option Addr} {ts : List Va} (h : VasAt w B A ts) (hb : Below B w w') : VasAt w' B A ts := h.keep fun _ hp => hb.cell hp
theorem VasAt.up {w w' : World} {A : Option Addr} {ts : List Va} (h : VasAt w w.heap.size A ts) (hb : Below w.heap.size w w') : VasAt w' w'.heap.size A ts := (h.below hb).more hb.size

/-- What a value that reads as a tree looks like. -/
theorem VaAt.open {w : World} {B : Nat} {v : Value} {t : Va} (h : VaAt w B v t) : ∃ L lc A ac, v = .agg #[.int .i64 t.kind, .int .i64 t.num, .string t.name, .slice L t.labels.length lc, .slice A t.args.length ac] ∧ t.name.size ≤ maxLen ∧ t.labels.length ≤ maxLen ∧ (∀ i, (h : i < t.labels.length) → t.labels[i].size ≤ maxLen) ∧ StrsAt w B L t.labels ∧ VasAt w B A t.args := by
  cases h with
  | mk vs hnm hn hz hm hls hes hks => exact ⟨_, _, _, _, rfl, hnm, hn, hz, hls, hm, vs, hes, hks⟩
theorem VaAt.of {w : World} {B lc ac : Nat} {L A : Option Addr} {t : Va} (hnm : t.name.size ≤ maxLen) (hn : t.labels.length ≤ maxLen) (hz : ∀ i, (h : i < t.labels.length) → t.labels[i].size ≤ maxLen) (hl : StrsAt w B L t.labels) (ha : VasAt w B A t.args) : VaAt w B (.agg #[.int .i64 t.kind, .int .i64 t.num, .string t.name, .slice L t.labels.length lc, .slice A t.args.length ac]) t := by
  obtain ⟨h0, vs, h1, h2⟩ := ha
  cases t
  exact .mk vs hnm hn hz h0 hl h1 h2

/-- Element i of a list of trees: its three cells. -/
theorem VasAt.elem {w : World} {B : Nat} {A : Option Addr} {ts : List Va} (h : VasAt w B A ts) (i : Nat) (hi : i < ts.length) :
    ∃ b off L lc A' ac, A = some ⟨b, off, none⟩ ∧ b < B ∧ w.cell? ⟨b, off + i * 5, none⟩ = some (.int .i64 ts[i].kind) ∧ w.cell? ⟨b, off + i * 5 + 1, none⟩ = some (.int .i64 ts[i].num) ∧ w.cell? ⟨b, off + i * 5 + 2, none⟩ = some (.string ts[i].name) ∧
      w.cell? ⟨b, off + i * 5 + 3, none⟩ = some (.slice L ts[i].labels.length lc) ∧ w.cell? ⟨b, off + i * 5 + 4, none⟩ = some (.slice A' ts[i].args.length ac) ∧
      VaAt w B (.agg #[.int .i64 ts[i].kind, .int .i64 ts[i].num, .string ts[i].name, .slice L ts[i].labels.length lc, .slice A' ts[i].args.length ac]) ts[i] := by
  obtain ⟨h0, vs, h1, h2⟩ := h
  obtain ⟨b, off, e, hb, hc⟩ := h1 i hi
  have ht := h2 i hi
  obtain ⟨L, lc, A', ac, hv, _⟩ := ht.open
  rw [hv] at hc ht
  exact ⟨b, off, L, lc, A', ac, e, hb, hc 0 (by omega), hc 1 (by omega), hc 2 (by omega), hc 3 (by omega), hc 4 (by omega), ht⟩

mutual
/-- What the law counts of a tree: its labels, their letters, its parts. -/
def szVa : Va → Nat | .mk _ _ nm ls ts => nm.size + (ls.length + sumSizes ls) + szVas ts
def szVas : List Va → Nat | [] => 0 | t :: r => 1 + szVa t + szVas r
end
theorem szVas_append : ∀ (a b : List Va), szVas (a ++ b) = szVas a + szVas b
  | [], b => by simp [szVas]
  | t :: a, b => by
    rw [List.cons_append, szVas, szVas, szVas_append a b]
    omega
theorem szVas_take (ts : List Va) (k : Nat) (h : k < ts.length) : szVas (ts.take (k + 1)) = szVas (ts.take k) + 1 + szVa ts[k] := by
  rw [List.take_succ_eq_append_getElem h, szVas_append, szVas, szVas]
  omega
theorem szVas_len : ∀ (ts : List Va), ts.length ≤ szVas ts
  | [] => Nat.le_refl _
  | t :: r => by
    have := szVas_len r
    rw [szVas, List.length_cons]
    omega
theorem szVas_le (ts : List Va) (k : Nat) : szVas (ts.take k) + (ts.length - k) ≤ szVas ts := by
  have h := szVas_append (ts.take k) (ts.drop k)
  have h2 := szVas_len (ts.drop k)
  rw [List.take_append_drop] at h
  rw [List.length_drop] at h2
  omega
theorem szVa_part (ts : List Va) (k : Nat) (h : k < ts.length) : szVa ts[k] + 1 ≤ szVas ts := by
  have h1 := szVas_take ts k h
  have h2 := szVas_le ts (k + 1)
  omega
theorem szVa_eq (t : Va) : szVa t = t.name.size + (t.labels.length + sumSizes t.labels) + szVas t.args := by
  cases t
  rw [szVa]
  rfl

end Go.Proofs.YtlmbnefoobameaaDoor

namespace Go.Proofs.YtlmbnefoobameaaDoor
open Go.RowKit

/-- The value reads as the tree; its blocks are all in S, no two of its slices share one. -/
inductive VaIn (w : World) : (Nat → Prop) → Value → Va → Prop where
  | mk {S : Nat → Prop} {k n : Int} {nm : ByteArray} {ls : List ByteArray} {ts : List Va} {L A : Option Addr} {lc ac : Nat} (gl ga : Nat) (vs : Nat → Value) (Ss : Nat → Nat → Prop)
      (hnm : nm.size ≤ maxLen) (hn : ls.length ≤ maxLen) (hz : ∀ i, (h : i < ls.length) → ls[i].size ≤ maxLen) (hm : ts.length ≤ maxLen)
      (hls : ls = [] ∨ L = some ⟨gl, 0, none⟩ ∧ S gl ∧ RowStrs w gl ls) (hes : ts = [] ∨ A = some ⟨ga, 0, none⟩ ∧ S ga ∧ ElemRow 5 27 w ga ts.length vs) (hne : gl ≠ ga)
      (hsub : ∀ i, i < ts.length → ∀ b, Ss i b → S b ∧ b ≠ gl ∧ b ≠ ga) (hdis : ∀ i j, i < ts.length → j < ts.length → i ≠ j → ∀ b, Ss i b → ¬ Ss j b)
      (hks : ∀ i, (hi : i < ts.length) → VaIn w (Ss i) (vs i) ts[i]) : VaIn w S (.agg #[.int .i64 k, .int .i64 n, .string nm, .slice L ls.length lc, .slice A ts.length ac]) (.mk k n nm ls ts)

theorem VaIn.keep {w w' : World} {S : Nat → Prop} {v : Value} {t : Va} (h : VaIn w S v t) (hk : ∀ b, S b → b < w.heap.size → w'.heap[b]? = w.heap[b]?) : VaIn w' S v t := by
  induction h with
  | mk gl ga vs Ss hnm hn hz hm hls hes hne hsub hdis _ ih =>
    refine .mk gl ga vs Ss hnm hn hz hm (hls.imp id fun ⟨h1, h2, h3⟩ => ⟨h1, h2, h3.same (hk _ h2 h3.lt)⟩) (hes.imp id fun ⟨h1, h2, h3⟩ => ⟨h1, h2, h3.keep (hk _ h2 h3.lt)⟩) hne hsub hdis fun i hi => ih i hi fun b hb => hk b (hsub i hi b hb).1
theorem VaIn.wide {w : World} {S S' : Nat → Prop} {v : Value} {t : Va} (h : VaIn w S v t) (hS : ∀ b, S b → S' b) : VaIn w S' v t := by
  cases h with
  | mk gl ga vs Ss hnm hn hz hm hls hes hne hsub hdis hks =>
    exact .mk gl ga vs Ss hnm hn hz hm (hls.imp id fun ⟨h1, h2, h3⟩ => ⟨h1, hS _ h2, h3⟩) (hes.imp id fun ⟨h1, h2, h3⟩ => ⟨h1, hS _ h2, h3⟩) hne (fun i hi b hb => ⟨hS _ (hsub i hi b hb).1, (hsub i hi b hb).2⟩) hdis hks
theorem VaIn.at {w : World} {S : Nat → Prop} {v : Value} {t : Va} (h : VaIn w S v t) (B : Nat) (hB : ∀ b, S b → b < w.heap.size → b < B) : VaAt w B v t := by
  induction h with
  | @mk S k n nm ls ts L A lc ac gl ga vs Ss hnm hn hz hm hls hes hne hsub hdis _ ih =>
    refine .mk vs hnm hn hz hm ?_ ?_ fun i hi => ih i hi fun b hb => hB b (hsub i hi b hb).1
    · rcases hls with rfl | ⟨rfl, h2, h3⟩
      · exact StrsAt.empty _ _ _
      · exact h3.at _ (hB _ h2 h3.lt)
    · rcases hes with rfl | ⟨rfl, h2, h3⟩
      · exact fun i hi => absurd hi (by simp)
      · exact h3.at _ (hB _ h2 h3.lt)
theorem VaIn.here {w : World} {S : Nat → Prop} {v : Value} {t : Va} (h : VaIn w S v t) : VaAt w w.heap.size v t := h.at _ fun _ _ h => h

/-- The slice (A, length, c) reads as the list of trees; its blocks are all in S. -/
def VasIn (w : World) (S : Nat → Prop) (A : Option Addr) (ts : List Va) : Prop :=
  ts.length ≤ maxLen ∧ ∃ (ga : Nat) (vs : Nat → Value) (Ss : Nat → Nat → Prop), (ts = [] ∨ A = some ⟨ga, 0, none⟩ ∧ S ga ∧ ElemRow 5 27 w ga ts.length vs) ∧
    (∀ i, i < ts.length → ∀ b, Ss i b → S b ∧ b ≠ ga) ∧ (∀ i j, i < ts.length → j < ts.length → i ≠ j → ∀ b, Ss i b → ¬ Ss j b) ∧ ∀ i, (hi : i < ts.length) → VaIn w (Ss i) (vs i) ts[i]
theorem VasIn.at {w : World} {S : Nat → Prop} {A : Option Addr} {ts : List Va} (h : VasIn w S A ts) (B : Nat) (hB : ∀ b, S b → b < w.heap.size → b < B) : VasAt w B A ts := by
  obtain ⟨h0, ga, vs, Ss, h1, h2, h3, h4⟩ := h
  refine ⟨h0, vs, ?_, fun i hi => (h4 i hi).at B fun b hb => hB b (h2 i hi b hb).1⟩
  rcases h1 with rfl | ⟨rfl, h5, h6⟩
  · exact fun i hi => absurd hi (by simp)
  · exact h6.at _ (hB _ h5 h6.lt)
theorem VasIn.here {w : World} {S : Nat → Prop} {A : Option Addr} {ts : List Va} (h : VasIn w S A ts) : VasAt w w.heap.size A ts := h.at _ fun _ _ h => h
theorem VasIn.keep {w w' : World} {S : Nat → Prop} {A : Option Addr} {ts : List Va} (h : VasIn w S A ts) (hk : ∀ b, S b → b < w.heap.size → w'.heap[b]? = w.heap[b]?) : VasIn w' S A ts := by
  obtain ⟨h0, ga, vs, Ss, h1, h2, h3, h4⟩ := h
  exact ⟨h0, ga, vs, Ss, h1.imp id fun ⟨a, b, c⟩ => ⟨a, b, c.keep (hk _ b c.lt)⟩, h2, h3, fun i hi => (h4 i hi).keep fun b hb => hk b (h2 i hi b hb).1⟩

/-- A tree of labels and parts that lie apart. -/
theorem VaIn.of {w : World} {S Sa : Nat → Prop} {L A : Option Addr} {lc ac gl : Nat} {t : Va} (hnm : t.name.size ≤ maxLen) (hn : t.labels.length ≤ maxLen) (hz : ∀ i, (h : i < t.labels.length) → t.labels[i].size ≤ maxLen)
    (hl : t.labels = [] ∨ L = some ⟨gl, 0, none⟩ ∧ S gl ∧ RowStrs w gl t.labels) (ha : VasIn w Sa A t.args) (hs : ∀ b, Sa b → S b ∧ b ≠ gl) :
    VaIn w S (.agg #[.int .i64 t.kind, .int .i64 t.num, .string t.name, .slice L t.labels.length lc, .slice A t.args.length ac]) t := by
  obtain ⟨h0, ga, vs, Ss, h1, h2, h3, h4⟩ := ha
  cases t with
  | mk k n nm ls ts =>
    simp only [Va.labels, Va.args, Va.kind, Va.num, Va.name] at *
    rcases h1 with rfl | ⟨rfl, h5, h6⟩
    · exact .mk gl (gl + 1) vs Ss hnm hn hz h0 hl (.inl rfl) (by omega) (fun i hi => absurd hi (by simp)) (fun i _ hi => absurd hi (by simp)) h4
    · exact .mk gl ga vs Ss hnm hn hz h0 hl (.inr ⟨rfl, (hs _ h5).1, h6⟩) (fun e => (hs _ h5).2 e.symm) (fun i hi b hb => ⟨(hs _ (h2 i hi b hb).1).1, (hs _ (h2 i hi b hb).1).2, (h2 i hi b hb).2⟩) h3 h4
theorem VaIn.open {w : World} {S : Nat → Prop} {v : Value} {t : Va} (h : VaIn w S v t) :
    ∃ L lc A ac gl, v = .agg #[.int .i64 t.kind, .int .i64 t.num, .string t.name, .slice L t.labels.length lc, .slice A t.args.length ac] ∧ t.name.size ≤ maxLen ∧ t.labels.length ≤ maxLen ∧ (∀ i, (h : i < t.labels.length) → t.labels[i].size ≤ maxLen) ∧
      (t.labels = [] ∨ L = some ⟨gl, 0, none⟩ ∧ S gl ∧ RowStrs w gl t.labels) ∧ VasIn w (fun b => S b ∧ b ≠ gl) A t.args := by
  cases h with
  | mk gl ga vs Ss hnm hn hz hm hls hes hne hsub hdis hks =>
    exact ⟨_, _, _, _, gl, rfl, hnm, hn, hz, hls, hm, ga, vs, Ss, hes.imp id fun ⟨a, b, c⟩ => ⟨a, ⟨b, fun e => hne e.symm⟩, c⟩, fun i hi b hb => ⟨⟨(hsub i hi b hb).1, (hsub i hi b hb).2.1⟩, (hsub i hi b hb).2.2⟩, hdis, hks⟩

end Go.Proofs.YtlmbnefoobameaaDoor
end

section
namespace Go.Proofs.YtlmbnefoobameaaDoor
open Go.RowKit

end Go.Proofs.YtlmbnefoobameaaDoor
end

section
namespace Go.Proofs.YtlmbnefoobameaaDoor
open Go.RowKit

/-- A new tree is handed back. -/
def NewVa (w : World) (t : Va) (e : Ending) (w' : World) : Prop := ∃ v, e = .returned v ∧ VaIn w' (Span w.heap.size w'.heap.size) v t ∧ Below w.heap.size w w'
/-- A new list of trees is handed back. -/
def NewVas (w : World) (ts : List Va) (e : Ending) (w' : World) : Prop := ∃ g c, e = .returned (.slice (some ⟨g, 0, none⟩) ts.length c) ∧ w.heap.size ≤ g ∧ VasIn w' (Span w.heap.size w'.heap.size) (some ⟨g, 0, none⟩) ts ∧ Below w.heap.size w w'

theorem infoValue : (Tryd.prog.info? 27).map (fun i => (i.zero, i.size, i.bytes)) = some (some (.agg #[.int .i64 0, .int .i64 0, .string ⟨#[]⟩, .slice none 0 0, .slice none 0 0]), 5, 80) := by kernel_rfl

/-- Row g of n elements; those below k are made, each in blocks of its own. -/
def VFilling (w : World) (lo g n k : Nat) (ts : List Va) : Prop :=
  ∃ (cs : Array Value) (vs : Nat → Value) (bd : Nat → Nat), Whole1 w g 27 cs ∧ cs.size = n * 5 ∧ (∀ i, i < k → ∀ j, j < 5 → (partAt (vs i) j).isSome = true ∧ cs[i * 5 + j]? = partAt (vs i) j) ∧
    lo ≤ g ∧ g < bd 0 ∧ (∀ i, i < k → bd i ≤ bd (i + 1)) ∧ bd k ≤ w.heap.size ∧ ∀ i, (hi : i < ts.length) → i < k → VaIn w (Span (bd i) (bd (i + 1))) (vs i) ts[i]

theorem VFilling.done {w : World} {lo g : Nat} {ts : List Va} (h : VFilling w lo g ts.length ts.length ts) (hm : ts.length ≤ maxLen) : VasIn w (Span lo w.heap.size) (some ⟨g, 0, none⟩) ts := by
  obtain ⟨cs, vs, bd, h1, h2, h3, h4, h5, h6, h7, h8⟩ := h
  refine ⟨hm, g, vs, fun i => Span (bd i) (bd (i + 1)), .inr ⟨rfl, ⟨h4, h1.lt⟩, cs, h1, h3⟩, fun i hi b hb => ?_, fun i j hi hj hne b hb hb' => ?_, fun i hi => h8 i hi hi⟩
  · have a := bd_mono bd _ h6 0 i (by omega) (by omega)
    have c := bd_mono bd _ h6 (i + 1) ts.length (by omega) (Nat.le_refl _)
    have := hb.1
    have := hb.2
    exact ⟨⟨by omega, by omega⟩, by omega⟩
  · have := hb.1
    have := hb.2
    have := hb'.1
    have := hb'.2
    rcases Nat.lt_or_gt_of_ne hne with hlt | hlt
    · have a := bd_mono bd _ h6 (i + 1) j (by omega) (by omega)
      omega
    · have a := bd_mono bd _ h6 (j + 1) i (by omega) (by omega)
      omega
theorem VFilling.below {w w' : World} {lo g n k : Nat} {ts : List Va} (h : VFilling w lo g n k ts) (hb : Below w.heap.size w w') : VFilling w' lo g n k ts := by
  obtain ⟨cs, vs, bd, h1, h2, h3, h4, h5, h6, h7, h8⟩ := h
  refine ⟨cs, vs, bd, h1.below hb h1.lt, h2, h3, h4, h5, h6, Nat.le_trans h7 hb.size, fun i hi hk => (h8 i hi hk).keep fun b hB _ => hb.block b ?_⟩
  have := bd_mono bd k h6 (i + 1) k (by omega) (Nat.le_refl _)
  have := hB.2
  omega
/-- The next element is stored. -/
theorem VFilling.step {w w' : World} {lo g n k : Nat} {ts : List Va} {a b c d e : Value} (h : VFilling w lo g n k ts) (hb : Below w.heap.size w w') (hk : k < n) (hkt : k < ts.length) (hv : VaIn w' (Span w.heap.size w'.heap.size) (.agg #[a, b, c, d, e]) ts[k]) :
    VFilling (((((w'.setCell ⟨g, k * 5, none⟩ a).setCell ⟨g, k * 5 + 1, none⟩ b).setCell ⟨g, k * 5 + 2, none⟩ c).setCell ⟨g, k * 5 + 3, none⟩ d).setCell ⟨g, k * 5 + 4, none⟩ e) lo g n (k + 1) ts := by
  obtain ⟨cs, vs, bd, h1, h2, h3, h4, h5, h6, h7, h8⟩ := h
  have hlt := h1.lt
  have hw := (((((h1.below hb hlt).set (k * 5) a).set (k * 5 + 1) b).set (k * 5 + 2) c).set (k * 5 + 3) d).set (k * 5 + 4) e
  have hsz := hb.size
  have hk' : ∀ q, q ≠ g → (((((w'.setCell ⟨g, k * 5, none⟩ a).setCell ⟨g, k * 5 + 1, none⟩ b).setCell ⟨g, k * 5 + 2, none⟩ c).setCell ⟨g, k * 5 + 3, none⟩ d).setCell ⟨g, k * 5 + 4, none⟩ e).heap[q]? = w'.heap[q]? := fun q hq => by
    rw [Below.heap_setCell _ _ _ _ hq, Below.heap_setCell _ _ _ _ hq, Below.heap_setCell _ _ _ _ hq, Below.heap_setCell _ _ _ _ hq, Below.heap_setCell _ _ _ _ hq]
  have hS : (((((w'.setCell ⟨g, k * 5, none⟩ a).setCell ⟨g, k * 5 + 1, none⟩ b).setCell ⟨g, k * 5 + 2, none⟩ c).setCell ⟨g, k * 5 + 3, none⟩ d).setCell ⟨g, k * 5 + 4, none⟩ e).heap.size = w'.heap.size := by simp [World.setCell]
  generalize ((((w'.setCell ⟨g, k * 5, none⟩ a).setCell ⟨g, k * 5 + 1, none⟩ b).setCell ⟨g, k * 5 + 2, none⟩ c).setCell ⟨g, k * 5 + 3, none⟩ d).setCell ⟨g, k * 5 + 4, none⟩ e = W at *
  have hg0 : ∀ i, i ≤ k → g < bd i := fun i hi => Nat.lt_of_lt_of_le h5 (bd_mono bd k h6 0 i (by omega) hi)
  refine ⟨_, fun j => if j = k then .agg #[a, b, c, d, e] else vs j, fun j => if j ≤ k then bd j else w'.heap.size, hw, by simp [h2], fun i hi j hj => ?_, h4, by simpa using h5, fun i hi => ?_, ?_, fun i hi hik => ?_⟩
  · dsimp only
    have hb3 : k * 5 + 4 < cs.size := by omega
    by_cases ek : i = k
    · subst ek
      rw [if_pos rfl]
      simp only [Array.getElem?_setIfInBounds, Array.size_setIfInBounds]
      have : j = 0 ∨ j = 1 ∨ j = 2 ∨ j = 3 ∨ j = 4 := by omega
      rcases this with rfl | rfl | rfl | rfl | rfl
      · simp [partAt]; omega
      · simp [partAt]; omega
      · simp [partAt]; omega
      · simp [partAt]; omega
      · simp [partAt]; omega
    · rw [if_neg ek]
      have hh := h3 i (by omega) j hj
      refine ⟨hh.1, ?_⟩
      rw [← hh.2]
      simp only [Array.getElem?_setIfInBounds, Array.size_setIfInBounds]
      rw [if_neg (by omega), if_neg (by omega), if_neg (by omega), if_neg (by omega), if_neg (by omega)]
  · dsimp only
    by_cases ek : i = k
    · subst ek
      rw [if_pos (Nat.le_refl _), if_neg (by omega)]
      omega
    · rw [if_pos (by omega), if_pos (by omega)]
      exact h6 i (by omega)
  · dsimp only
    rw [if_neg (by omega), hS]
    exact Nat.le_refl _
  · dsimp only
    by_cases ek : i = k
    · subst ek
      rw [if_pos rfl, if_pos (Nat.le_refl _), if_neg (by omega)]
      refine (hv.wide fun q hq => ⟨by have := hq.1; omega, hq.2⟩).keep fun q hq _ => hk' q ?_
      have := hq.1
      have := hg0 i (Nat.le_refl _)
      omega
    · rw [if_neg ek, if_pos (by omega), if_pos (by omega)]
      refine (h8 i hi (by omega)).keep fun q hq _ => ?_
      have e1 := hq.1
      have e2 := hq.2
      have e3 := hg0 i (by omega)
      have e4 := bd_mono bd k h6 (i + 1) k (by omega) (Nat.le_refl _)
      rw [hk' q (by omega)]
      exact hb.block q (by omega)

theorem VFilling.cells {w : World} {lo g n k : Nat} {ts : List Va} (h : VFilling w lo g n k ts) (i : Nat) (hi : i < n) : ∃ x y z u v, w.cell? ⟨g, i * 5, none⟩ = some x ∧ w.cell? ⟨g, i * 5 + 1, none⟩ = some y ∧ w.cell? ⟨g, i * 5 + 2, none⟩ = some z ∧ w.cell? ⟨g, i * 5 + 3, none⟩ = some u ∧ w.cell? ⟨g, i * 5 + 4, none⟩ = some v ∧
    w.frozen? ⟨g, i * 5, none⟩ = false ∧ w.frozen? ⟨g, i * 5 + 1, none⟩ = false ∧ w.frozen? ⟨g, i * 5 + 2, none⟩ = false ∧ w.frozen? ⟨g, i * 5 + 3, none⟩ = false ∧ w.frozen? ⟨g, i * 5 + 4, none⟩ = false := by
  obtain ⟨cs, vs, bd, h1, h2, _⟩ := h
  refine ⟨cs[i * 5]'(by omega), cs[i * 5 + 1]'(by omega), cs[i * 5 + 2]'(by omega), cs[i * 5 + 3]'(by omega), cs[i * 5 + 4]'(by omega), ?_, ?_, ?_, ?_, ?_, h1.free _, h1.free _, h1.free _, h1.free _, h1.free _⟩
  all_goals rw [h1.cell, Array.getElem?_eq_getElem]
theorem VFilling.start (w : World) (cs : Array Value) (n : Nat) (ts : List Va) (hs : cs.size = n * 5) : VFilling (w.alloc (.cells cs 27)) w.heap.size w.heap.size n 0 ts :=
  ⟨cs, fun _ => .bool false, fun _ => w.heap.size + 1, Whole1.new _ _ _, hs, fun i hi => absurd hi (by omega), Nat.le_refl _, Nat.lt_succ_self _, fun i hi => absurd hi (by omega), by simp, fun i _ hi => absurd hi (by omega)⟩

end Go.Proofs.YtlmbnefoobameaaDoor
end

section
namespace Go.Proofs.YtlmbnefoobameaaDoor
open Go.RowKit

end Go.Proofs.YtlmbnefoobameaaDoor
end

section
namespace Go.Proofs.YtlmbnefoobameaaDoor
open Go.RowKit

mutual
/-- The number of nodes. -/
def sizeVa : Va → Nat | .mk _ _ _ _ ts => 1 + sizeVas ts
def sizeVas : List Va → Nat | [] => 0 | t :: r => sizeVa t + sizeVas r
end
theorem sizeVa_eq (t : Va) : sizeVa t = 1 + sizeVas t.args := by cases t; rw [sizeVa]; rfl
theorem sizeVas_append : ∀ (a b : List Va), sizeVas (a ++ b) = sizeVas a + sizeVas b
  | [], b => by simp [sizeVas]
  | t :: a, b => by
    rw [List.cons_append, sizeVas, sizeVas, sizeVas_append a b]
    omega
theorem sizeVas_take (ts : List Va) (k : Nat) (h : k < ts.length) : sizeVas (ts.take (k + 1)) = sizeVas (ts.take k) + sizeVa ts[k] := by
  rw [List.take_succ_eq_append_getElem h, sizeVas_append, sizeVas, sizeVas]
  omega
theorem sizeVas_le (ts : List Va) (k : Nat) : sizeVas (ts.take k) ≤ sizeVas ts := by
  have h := sizeVas_append (ts.take k) (ts.drop k)
  rw [List.take_append_drop] at h
  omega
mutual
theorem size_le_szV : ∀ (t : Va), sizeVa t ≤ szVa t + 1
  | .mk _ _ _ ls ts => by
    rw [sizeVa, szVa]
    have := sizes_le_szVs ts
    omega
theorem sizes_le_szVs : ∀ (ts : List Va), sizeVas ts ≤ szVas ts
  | [] => Nat.le_refl _
  | t :: r => by
    rw [sizeVas, szVas]
    have := size_le_szV t
    have := sizes_le_szVs r
    omega
end
mutual
/-- The depth. -/
def depthVa : Va → Nat | .mk _ _ _ _ ts => depthVas ts + 1
def depthVas : List Va → Nat | [] => 0 | t :: r => max (depthVa t) (depthVas r)
end
theorem depthVa_eq (t : Va) : depthVa t = depthVas t.args + 1 := by cases t; rw [depthVa]; rfl
theorem depthVas_append : ∀ (a b : List Va), depthVas (a ++ b) = max (depthVas a) (depthVas b)
  | [], b => by simp [depthVas]
  | t :: a, b => by
    rw [List.cons_append, depthVas, depthVas, depthVas_append a b]
    omega
theorem depthVas_take (ts : List Va) (k : Nat) (h : k < ts.length) : depthVas (ts.take (k + 1)) = max (depthVas (ts.take k)) (depthVa ts[k]) := by
  rw [List.take_succ_eq_append_getElem h, depthVas_append, depthVas, depthVas]
  omega
mutual
theorem depth_le_sizeV : ∀ (t : Va), depthVa t ≤ sizeVa t
  | .mk _ _ _ ls ts => by
    rw [depthVa, sizeVa]
    have := depths_le_sizesV ts
    omega
theorem depths_le_sizesV : ∀ (ts : List Va), depthVas ts ≤ sizeVas ts
  | [] => Nat.le_refl _
  | t :: r => by
    rw [depthVas, sizeVas]
    have := depth_le_sizeV t
    have := depths_le_sizesV r
    omega
end
def SizeVOne (f : Nat) (t : Va) : Prop := ∀ (v : Value) (w : World), VaAt w w.heap.size v t → sizeVa t ≤ 2000000 → Calls Tryd.prog f #[v] w (IntBelow (sizeVa t) w)

set_option maxHeartbeats 1000000 in
theorem specSizeV_of (k0 n0 : Int) (nm : ByteArray) (ls : List ByteArray) (ts : List Va) (hall : ∀ i, (h : i < ts.length) → SizeVOne 17 ts[i]) : SizeVOne 17 (.mk k0 n0 nm ls ts) := by
  intro v w hv hsz
  have hse := Lib.hid (sizeVa_eq (.mk k0 n0 nm ls ts))
  have hse2 : sizeVas ts ≤ 2000000 := by have := hse.out; simp only [Va.args] at this; omega
  obtain ⟨L, lc, A, ac, rfl, _, _, _, _, ha⟩ := hv.open
  simp only [Va.kind, Va.num, Va.name, Va.labels, Va.args] at *
  have hm := ha.1
  unfold maxLen at hm
  have HALL := Lib.hid hall
  clear hall hv
  obtain ⟨hb0, p0, hs0⟩ := boxes1 w 27 #[.int .i64 k0, .int .i64 n0, .string nm, .slice L ls.length lc, .slice A ts.length ac]
  have ha0 := ha.up hb0
  have HZ := Lib.hid hs0
  clear ha hs0
  go_enter Tryd.func17, Tryd.ntmps17
  go_wp2
  generalize w.alloc (.cells #[.int .i64 k0, .int .i64 n0, .string nm, .slice L ls.length lc, .slice A ts.length ac] 27) = w0 at *
  have hpl := p0.lt
  go_loopw [3, 4] (fun n i wr => ∃ k : Nat, k ≤ ts.length ∧ i = .int .i64 k ∧ n = .int .i64 ((1 + sizeVas (ts.take k) : Nat) : Int) ∧ Below w0.heap.size w0 wr) (fun _ i _ => ts.length - (intOf i).toNat)
  case atStart => exact ⟨0, Nat.zero_le _, rfl, by simp [sizeVas], Below.refl _ _⟩
  case round =>
    obtain ⟨k, hk, rfl, rfl, hb⟩ := hrel
    have p1 := p0.below hb hpl
    have c2 : wr.cell? ⟨w.heap.size, 4, none⟩ = some (.slice A ts.length ac) := p1.cell 4
    by_cases hlt : k < ts.length
    · obtain ⟨b, off, L1, lc1, A1, ac1, rfl, hbl, q0, q1, q2, q3, q4, ht⟩ := (ha0.below hb).elem k hlt
      have hst := Lib.hid (sizeVas_take ts k hlt)
      have hle := sizeVas_le ts (k + 1)
      have hb3 : sizeVas (ts.take k) + sizeVa ts[k] ≤ 2000000 := by have := hst.out; omega
      have HT := Lib.hid (HALL.out k hlt _ wr (ht.more hb.size) (by omega))
      clear ht p1
      go_wp2_with fail
      refine HT.out.mono ?_
      rintro e w1 ⟨rfl, hb1⟩
      go_wp2
      go_roundw
      case rel => exact ⟨k + 1, by omega, by go_num, by rw [hst.out]; go_num, hb.trans (hb1.mono hb.size)⟩
      case measure => simp [intOf]; omega
    · have hke : k = ts.length := by omega
      subst hke
      go_wp2
      go_ret
      exact ⟨by rw [hse.out, List.take_length]; rfl, hb0.trans (hb.mono hb0.size)⟩

theorem specSizeV_any (t : Va) : SizeVOne 17 t := by
  induction t using Va.ind with
  | h k n nm ls ts ih => exact specSizeV_of k n nm ls ts ih

def LeftVOne (f : Nat) (t : Va) : Prop := ∀ (v : Value) (left : Int) (w : World), VaAt w w.heap.size v t → 0 ≤ left → left ≤ 1000000 → Calls Tryd.prog f #[v, .int .i64 left] w (IntBelow (leftOf left (sizeVa t)) w)

set_option maxHeartbeats 1000000 in
theorem specLeftV_of (k0 n0 : Int) (nm : ByteArray) (ls : List ByteArray) (ts : List Va) (hall : ∀ i, (h : i < ts.length) → LeftVOne 44 ts[i]) : LeftVOne 44 (.mk k0 n0 nm ls ts) := by
  intro v left w hv h0 h1
  have hse := Lib.hid (sizeVa_eq (.mk k0 n0 nm ls ts))
  obtain ⟨L, lc, A, ac, rfl, _, _, _, _, ha⟩ := hv.open
  simp only [Va.kind, Va.num, Va.name, Va.labels, Va.args] at *
  have hm := ha.1
  unfold maxLen at hm
  have HALL := Lib.hid hall
  clear hall hv
  obtain ⟨hb0, p0, hs0⟩ := boxes1 w 27 #[.int .i64 k0, .int .i64 n0, .string nm, .slice L ls.length lc, .slice A ts.length ac]
  have ha0 := ha.up hb0
  have HZ := Lib.hid hs0
  clear ha hs0
  go_enter Tryd.func44, Tryd.ntmps44
  go_wp2
  generalize w.alloc (.cells #[.int .i64 k0, .int .i64 n0, .string nm, .slice L ls.length lc, .slice A ts.length ac] 27) = w0 at *
  have hpl := p0.lt
  go_loopw [1, 5] (fun n i wr => ∃ (k : Nat) (x : Int), k ≤ ts.length ∧ i = .int .i64 k ∧ n = .int .i64 x ∧ Hid (x = leftOf left (1 + sizeVas (ts.take k))) ∧ x ≤ 1000000 ∧ -1 ≤ x ∧ Below w0.heap.size w0 wr) (fun _ i _ => ts.length - (intOf i).toNat)
  case atStart => exact ⟨0, left - 1, Nat.zero_le _, rfl, rfl, Lib.hid (by simp only [List.take_zero, sizeVas, leftOf]; split <;> omega), by omega, by omega, Below.refl _ _⟩
  case round =>
    obtain ⟨k, x, hk, rfl, rfl, hx, hxl, hxm, hb⟩ := hrel
    have p1 := p0.below hb hpl
    have c2 : wr.cell? ⟨w.heap.size, 4, none⟩ = some (.slice A ts.length ac) := p1.cell 4
    by_cases hlt : k < ts.length
    · by_cases hx0 : 0 ≤ x
      · obtain ⟨b, off, L1, lc1, A1, ac1, rfl, hbl, q0, q1, q2, q3, q4, ht⟩ := (ha0.below hb).elem k hlt
        have hst2 := Lib.hid (sizeVas_take ts k hlt)
        have hdx : decide ((0 : Int) ≤ x) = true := by simp; omega
        have hlk : decide ((k : Int) < (ts.length : Int)) = true := by simp; omega
        have HT := Lib.hid (HALL.out k hlt _ x wr (ht.more hb.size) hx0 hxl)
        have hle := leftOf_le x (sizeVa ts[k]) hx0
        have hcs := leftOf_cases x (sizeVa ts[k])
        have hnx : Hid (leftOf x (sizeVa ts[k]) = leftOf left (1 + sizeVas (ts.take (k + 1)))) := Lib.hid (by
          have hxe := hx.out
          rw [hst2.out, hxe, leftOf_step _ _ _ (by rw [← hxe]; exact hx0), Nat.add_assoc])
        clear ht p1
        go_wp2_with fail
        refine HT.out.mono ?_
        rintro e w1 ⟨rfl, hb1⟩
        generalize leftOf x (sizeVa ts[k]) = y at *
        go_wp2
        go_roundw
        case rel => exact ⟨k + 1, y, by omega, by go_num, rfl, hnx, by omega, by omega, hb.trans (hb1.mono hb.size)⟩
        case measure => simp [intOf]; omega
      · have hxe : x = -1 := by omega
        have hr := Lib.hid (show leftOf left (sizeVa (.mk k0 n0 nm ls ts)) = -1 by
          rw [hse.out]
          have := hx.out
          exact leftOf_neg _ _ _ (by rw [← this]; exact hxe) (by have := sizeVas_le ts k; omega))
        subst hxe
        clear hx0
        go_wp2
        go_ret
        exact ⟨by rw [hr.out]; rfl, hb0.trans (hb.mono hb0.size)⟩
    · have hke : k = ts.length := by omega
      subst hke
      rw [List.take_length] at hx
      go_wp2
      go_ret
      exact ⟨by rw [hse.out, ← hx.out]; rfl, hb0.trans (hb.mono hb0.size)⟩

theorem specLeftV_any (t : Va) : LeftVOne 44 t := by
  induction t using Va.ind with
  | h k n nm ls ts ih => exact specLeftV_of k n nm ls ts ih


end Go.Proofs.YtlmbnefoobameaaDoor
end

section
namespace Go.Proofs.YtlmbnefoobameaaDoor
open Go.RowKit

theorem isNameB_size (s : ByteArray) (h : isNameB s = true) : 1 ≤ s.size ∧ s.size ≤ 4 := by
  unfold isNameB at h
  simp only [Bool.and_eq_true, decide_eq_true_eq] at h
  exact ⟨h.1.2, h.2⟩

theorem size_nil {nm : ByteArray} (h : nm.size = 0) : nm = ⟨#[]⟩ := by
  obtain ⟨⟨l⟩⟩ := nm
  have : l = [] := List.length_eq_zero_iff.1 h
  rw [this]
theorem toList_nil_no {nm : ByteArray} (h : nm.size ≠ 0) : (nm.toList == []) = false := by
  rw [ByteArray.toList_eq]
  obtain ⟨⟨l⟩⟩ := nm
  cases l with
  | nil => exact absurd rfl h
  | cons x r => rfl
/-- Has a node of this kind this number, this name, these labels and so many parts? -/
def nodeVB (k n : Int) (nm : ByteArray) (ls : List ByteArray) (m : Nat) : Bool :=
  if k = 1 then decide (nm.size = 0) && decide (ls.length = 0) && decide (m = 0)
  else if k = 2 then decide (nm.size = 0) && decide (ls.length = 0) && decide (m = 0) && decide (0 ≤ n ∧ n ≤ 1)
  else if k = 3 then decide (nm.size = 0) && decide (n = 0) && decide (m = ls.length) && labelsB ls
  else if k = 4 then isNameB nm && decide (ls.length = 0) && decide (n = 0) && decide (m = 1)
  else if k = 5 then decide (nm.size = 0) && decide (ls.length = 0) && decide (n = 0)
  else false
theorem nodeVB_name (k n : Int) (nm : ByteArray) (ls : List ByteArray) (m : Nat) (h : nm.size ≠ 0) (hk : k ≠ 4) : nodeVB k n nm ls m = false := by
  unfold nodeVB
  simp [h, hk]
theorem nodeVB_labels (k n : Int) (nm : ByteArray) (ls : List ByteArray) (m : Nat) (h : ls.length ≠ 0) (hk : k ≠ 3) : nodeVB k n nm ls m = false := by
  unfold nodeVB
  simp only [h, hk, if_false, decide_false, Bool.and_false, Bool.false_and]
  simp
theorem nodeVB_noname (k n : Int) (nm : ByteArray) (ls : List ByteArray) (m : Nat) (h : isNameB nm = false) (hk : k = 4) : nodeVB k n nm ls m = false := by
  unfold nodeVB
  subst hk
  simp [h]
theorem nodeVB_other (k n : Int) (nm : ByteArray) (ls : List ByteArray) (m : Nat) (h1 : k ≠ 1) (h2 : k ≠ 2) (h3 : k ≠ 3) (h4 : k ≠ 4) (h5 : k ≠ 5) : nodeVB k n nm ls m = false := by
  unfold nodeVB
  rw [if_neg h1, if_neg h2, if_neg h3, if_neg h4, if_neg h5]
mutual
/-- Has every node one of the forms? -/
def formVa : Va → Bool | .mk k n nm ls ts => formVas ts && nodeVB k n nm ls ts.length
def formVas : List Va → Bool | [] => true | t :: r => formVa t && formVas r
end
theorem formVas_all : ∀ (ts : List Va), (∀ i, (h : i < ts.length) → formVa ts[i] = true) → formVas ts = true
  | [], _ => by rw [formVas]
  | t :: r, h => by
    rw [formVas, show formVa t = true from h 0 (by simp), formVas_all r fun i hi => h (i + 1) (by simpa using hi)]
    rfl
theorem formVas_no : ∀ (ts : List Va) (i : Nat) (h : i < ts.length), formVa ts[i] = false → formVas ts = false
  | [], i, h, _ => absurd h (by simp)
  | t :: r, 0, _, e => by
    rw [formVas]
    have : formVa t = false := e
    rw [this]
    rfl
  | t :: r, i + 1, h, e => by
    rw [formVas, formVas_no r i (by simpa using h) (by simpa using e), Bool.and_false]
theorem formVas_at : ∀ (ts : List Va), formVas ts = true → ∀ i, (h : i < ts.length) → formVa ts[i] = true := by
  intro ts h i hi
  cases hf : formVa ts[i] with
  | true => rfl
  | false => rw [formVas_no ts i hi hf] at h; cases h
theorem formVa_eq (t : Va) : formVa t = (formVas t.args && nodeVB t.kind t.num t.name t.labels t.args.length) := by
  cases t
  rw [formVa]
  rfl

def FormVOne (f : Nat) (t : Va) : Prop := ∀ (v : Value) (w : World), VaAt w w.heap.size v t → szVa t ≤ 1048576 → Calls Tryd.prog f #[v] w (BoolIs (formVa t) w)

set_option maxHeartbeats 8000000 in
theorem specFormV_of (k0 n0 : Int) (nm : ByteArray) (ls : List ByteArray) (ts : List Va) (hall : ∀ i, (h : i < ts.length) → FormVOne 45 ts[i]) : FormVOne 45 (.mk k0 n0 nm ls ts) := by
  intro v w hv hsz
  have hse := szVa_eq (.mk k0 n0 nm ls ts)
  have hfe : formVa (.mk k0 n0 nm ls ts) = (formVas ts && nodeVB k0 n0 nm ls ts.length) := by rw [formVa]
  obtain ⟨L, lc, A, ac, rfl, hnm, hn, hz, hl, ha⟩ := hv.open
  simp only [Va.kind, Va.num, Va.name, Va.labels, Va.args] at *
  have hm := ha.1
  have hnl : ls.length < maxLen := by unfold maxLen; omega
  unfold maxLen at hm hn
  have hsz2 : szVas ts ≤ 1048576 := by omega
  have HALL := Lib.hid hall
  have HZ2 := Lib.hid hz
  have HFE := Lib.hid hfe
  have HNM0 := Lib.hid hnm
  clear hall hv hz hfe hse hnm
  obtain ⟨hb0, p0, hs0⟩ := boxes1 w 27 #[.int .i64 k0, .int .i64 n0, .string nm, .slice L ls.length lc, .slice A ts.length ac]
  have ha0 := ha.up hb0
  have hl0 := hl.up' hb0
  have HZ := Lib.hid hs0
  clear ha hl hs0
  go_enter Tryd.func45, Tryd.ntmps45
  go_wp2
  generalize w.alloc (.cells #[.int .i64 k0, .int .i64 n0, .string nm, .slice L ls.length lc, .slice A ts.length ac] 27) = w0 at *
  have hpl := p0.lt
  go_loopw [3] (fun i wr => ∃ k : Nat, k ≤ ts.length ∧ i = .int .i64 k ∧ (∀ j, (hj : j < ts.length) → j < k → formVa ts[j] = true) ∧ Below w0.heap.size w0 wr) (fun i _ => ts.length - (intOf i).toNat)
  case atStart => exact ⟨0, Nat.zero_le _, rfl, fun j _ h => absurd h (by omega), Below.refl _ _⟩
  case round =>
    obtain ⟨k, hk, rfl, hall, hb⟩ := hrel
    have HA := Lib.hid hall
    clear hall
    have p1 := p0.below hb hpl
    have c4 : wr.cell? ⟨w.heap.size, 4, none⟩ = some (.slice A ts.length ac) := p1.cell 4
    by_cases hlt : k < ts.length
    · obtain ⟨b, off, L1, lc1, A1, ac1, rfl, hbl, q0, q1, q2, q3, q4, ht⟩ := (ha0.below hb).elem k hlt
      have hpt := szVa_part ts k hlt
      have HT := HALL.out k hlt _ wr (ht.more hb.size) (by omega)
      cases hfk : formVa ts[k]
      · rw [hfk] at HT
        have HT' := Lib.hid HT
        have hr := Lib.hid (show formVa (.mk k0 n0 nm ls ts) = false by rw [HFE.out, formVas_no ts k hlt hfk]; rfl)
        clear ht p1 HT hfk
        go_wp2_with fail
        refine HT'.out.mono ?_
        rintro e w1 ⟨rfl, hb1⟩
        go_wp2
        go_ret
        exact ⟨by rw [hr.out]; rfl, hb0.trans ((hb.trans (hb1.mono hb.size)).mono hb0.size)⟩
      · rw [hfk] at HT
        have HT' := Lib.hid HT
        have HK := Lib.hid hfk
        clear ht p1 HT hfk
        go_wp2_with fail
        refine HT'.out.mono ?_
        rintro e w1 ⟨rfl, hb1⟩
        go_wp2
        go_roundw
        case rel =>
          refine ⟨k + 1, by omega, by go_num, fun j hj h => ?_, hb.trans (hb1.mono hb.size)⟩
          by_cases e : j = k
          · subst e
            exact HK.out
          · exact HA.out j hj (by omega)
        case measure => simp [intOf]; omega
    · have hke : k = ts.length := by omega
      subst hke
      have hft := Lib.hid (formVas_all ts fun i hi => HA.out i hi hi)
      have c0 : wr.cell? ⟨w.heap.size, 0, none⟩ = some (.int .i64 k0) := p1.cell 0
      have c1 : wr.cell? ⟨w.heap.size, 1, none⟩ = some (.int .i64 n0) := p1.cell 1
      have c2 : wr.cell? ⟨w.heap.size, 2, none⟩ = some (.string nm) := p1.cell 2
      have c3 : wr.cell? ⟨w.heap.size, 3, none⟩ = some (.slice L ls.length lc) := p1.cell 3
      have hb' := hb0.trans (hb.mono hb0.size)
      have hres : Hid (formVa (.mk k0 n0 nm ls ts) = nodeVB k0 n0 nm ls ts.length) := Lib.hid (by rw [HFE.out, hft.out]; rfl)
      have HNB := specIsName_any nm wr HNM0.out
      clear p1
      have hnn := isNameB_size nm
      by_cases hk4 : k0 = 4
      · subst hk4
        cases hin : isNameB nm
        · rw [hin] at HNB
          have HNB' := Lib.hid HNB
          have hr := Lib.hid (nodeVB_noname 4 n0 nm ls ts.length hin rfl)
          clear hin HNB hnn
          go_wp2_with fail
          refine HNB'.out.mono ?_
          rintro e w1 ⟨rfl, rfl⟩
          go_wp2
          go_ret
          exact ⟨by rw [hres.out, hr.out]; rfl, hb'⟩
        · rw [hin] at HNB
          have HNB' := Lib.hid HNB
          have hsz := hnn hin
          have HIN := Lib.hid hin
          clear hin HNB hnn
          by_cases hl0z : ls.length = 0
          · have i1 : ¬ (ls.length : Int) > 0 := by omega
            by_cases hn0 : n0 = 0
            · have i2 : (n0 == 0) = true := by rw [beq_iff_eq]; exact hn0
              by_cases ht1 : ts.length = 1
              · have i3 : ((ts.length : Int) == 1) = true := by rw [beq_iff_eq]; omega
                have hr := Lib.hid (show nodeVB 4 n0 nm ls ts.length = true by unfold nodeVB; simp [HIN.out, hl0z, hn0, ht1])
                clear hl0z hn0 ht1
                go_wp2_with fail
                refine HNB'.out.mono ?_
                rintro e w1 ⟨rfl, rfl⟩
                go_wp2
                go_ret
                exact ⟨by rw [hres.out, hr.out]; rfl, hb'⟩
              · have i3 : ((ts.length : Int) == 1) = false := by rw [beq_eq_false_iff_ne]; omega
                have hr := Lib.hid (show nodeVB 4 n0 nm ls ts.length = false by unfold nodeVB; simp [ht1])
                clear hl0z hn0 ht1
                go_wp2_with fail
                refine HNB'.out.mono ?_
                rintro e w1 ⟨rfl, rfl⟩
                go_wp2
                go_ret
                exact ⟨by rw [hres.out, hr.out]; rfl, hb'⟩
            · have i2 : (n0 == 0) = false := by rw [beq_eq_false_iff_ne]; exact hn0
              have hr := Lib.hid (show nodeVB 4 n0 nm ls ts.length = false by unfold nodeVB; simp [hn0])
              clear hl0z hn0
              go_wp2_with fail
              refine HNB'.out.mono ?_
              rintro e w1 ⟨rfl, rfl⟩
              go_wp2
              go_ret
              exact ⟨by rw [hres.out, hr.out]; rfl, hb'⟩
          · have i1 : (ls.length : Int) > 0 := by omega
            have hr := Lib.hid (nodeVB_labels 4 n0 nm ls ts.length hl0z (by omega))
            clear hl0z
            go_wp2_with fail
            refine HNB'.out.mono ?_
            rintro e w1 ⟨rfl, rfl⟩
            go_wp2
            go_ret
            exact ⟨by rw [hres.out, hr.out]; rfl, hb'⟩
      · have e4 : (k0 == 4) = false := by rw [beq_eq_false_iff_ne]; exact hk4
        cases hin : isNameB nm
        · rw [hin] at HNB
          have HNB' := Lib.hid HNB
          have HIN := Lib.hid hin
          clear hin HNB hnn
          by_cases hs0 : nm.size = 0
          · have hnil : nm = ⟨#[]⟩ := size_nil hs0
            subst hnil
            by_cases hk3 : k0 = 3
            · subst hk3
              by_cases hn0 : n0 = 0
              · have i2 : (n0 == 0) = true := by rw [beq_iff_eq]; exact hn0
                by_cases hlt2 : ts.length = ls.length
                · have i1 : ((ls.length : Int) == (ts.length : Int)) = true := by rw [beq_iff_eq]; omega
                  have hr := Lib.hid (show nodeVB 3 n0 ⟨#[]⟩ ls ts.length = labelsB ls by unfold nodeVB; simp [hn0, hlt2, ByteArray.size])
                  have hlab := Lib.hid (specLabels_any L lc ls wr (hl0.up' hb) hnl HZ2.out)
                  clear hlt2 hn0 hk4 e4
                  go_wp2_with fail
                  refine HNB'.out.mono ?_
                  rintro e w1 ⟨rfl, rfl⟩
                  go_wp2_with fail
                  refine hlab.out.mono ?_
                  rintro e w2 ⟨rfl, hb1⟩
                  go_wp2
                  go_ret
                  exact ⟨by rw [hres.out, hr.out]; rfl, hb'.trans (hb1.mono hb'.size)⟩
                · have i1 : ((ls.length : Int) == (ts.length : Int)) = false := by rw [beq_eq_false_iff_ne]; omega
                  have hr := Lib.hid (show nodeVB 3 n0 ⟨#[]⟩ ls ts.length = false by unfold nodeVB; simp [hlt2])
                  clear hlt2 hn0 hk4 e4
                  go_wp2_with fail
                  refine HNB'.out.mono ?_
                  rintro e w1 ⟨rfl, rfl⟩
                  go_wp2
                  go_ret
                  exact ⟨by rw [hres.out, hr.out]; rfl, hb'⟩
              · have i2 : (n0 == 0) = false := by rw [beq_eq_false_iff_ne]; exact hn0
                have hr := Lib.hid (show nodeVB 3 n0 ⟨#[]⟩ ls ts.length = false by unfold nodeVB; simp [hn0])
                clear hn0 hk4 e4
                go_wp2_with fail
                refine HNB'.out.mono ?_
                rintro e w1 ⟨rfl, rfl⟩
                go_wp2
                go_ret
                exact ⟨by rw [hres.out, hr.out]; rfl, hb'⟩
            · have e3 : (k0 == 3) = false := by rw [beq_eq_false_iff_ne]; exact hk3
              have e3' : (k0 != 3) = true := by rw [bne_iff_ne]; exact hk3
              by_cases hl0z : ls.length = 0
              · have i1 : ¬ (ls.length : Int) > 0 := by omega
                by_cases hk1 : k0 = 1
                · subst hk1
                  by_cases ht0 : ts.length = 0
                  · have i3 : ((ts.length : Int) == 0) = true := by rw [beq_iff_eq]; omega
                    have hr := Lib.hid (show nodeVB 1 n0 ⟨#[]⟩ ls ts.length = true by unfold nodeVB; simp [hl0z, ht0, ByteArray.size])
                    clear hl0z ht0 hk4 hk3 e4 e3 e3'
                    go_wp2_with fail
                    refine HNB'.out.mono ?_
                    rintro e w1 ⟨rfl, rfl⟩
                    go_wp2
                    go_ret
                    exact ⟨by rw [hres.out, hr.out]; rfl, hb'⟩
                  · have i3 : ((ts.length : Int) == 0) = false := by rw [beq_eq_false_iff_ne]; omega
                    have hr := Lib.hid (show nodeVB 1 n0 ⟨#[]⟩ ls ts.length = false by unfold nodeVB; simp [ht0])
                    clear hl0z ht0 hk4 hk3 e4 e3 e3'
                    go_wp2_with fail
                    refine HNB'.out.mono ?_
                    rintro e w1 ⟨rfl, rfl⟩
                    go_wp2
                    go_ret
                    exact ⟨by rw [hres.out, hr.out]; rfl, hb'⟩
                · have e1 : (k0 == 1) = false := by rw [beq_eq_false_iff_ne]; exact hk1
                  by_cases hk2 : k0 = 2
                  · subst hk2
                    by_cases ht0 : ts.length = 0
                    · have i3 : ((ts.length : Int) == 0) = true := by rw [beq_iff_eq]; omega
                      by_cases hn01 : 0 ≤ n0 ∧ n0 ≤ 1
                      · have hr := Lib.hid (show nodeVB 2 n0 ⟨#[]⟩ ls ts.length = true by unfold nodeVB; simp [hl0z, ht0, hn01, ByteArray.size])
                        have hin := Lib.hid (fun W => l1In_yes n0 0 1 W hn01.1 hn01.2)
                        clear hl0z ht0 hk4 hk3 e4 e3 e3' hk1 e1 hn01
                        go_wp2_with fail
                        refine HNB'.out.mono ?_
                        rintro e w1 ⟨rfl, rfl⟩
                        go_wp2_with fail
                        refine (hin.out _).mono ?_
                        rintro e w2 ⟨rfl, rfl⟩
                        go_wp2
                        go_ret
                        exact ⟨by rw [hres.out, hr.out]; rfl, hb'⟩
                      · have hr := Lib.hid (show nodeVB 2 n0 ⟨#[]⟩ ls ts.length = false by unfold nodeVB; simp; omega)
                        have hin := Lib.hid (fun W => l1In_no n0 0 1 W (by omega))
                        clear hl0z ht0 hk4 hk3 e4 e3 e3' hk1 e1 hn01
                        go_wp2_with fail
                        refine HNB'.out.mono ?_
                        rintro e w1 ⟨rfl, rfl⟩
                        go_wp2_with fail
                        refine (hin.out _).mono ?_
                        rintro e w2 ⟨rfl, rfl⟩
                        go_wp2
                        go_ret
                        exact ⟨by rw [hres.out, hr.out]; rfl, hb'⟩
                    · have i3 : ((ts.length : Int) == 0) = false := by rw [beq_eq_false_iff_ne]; omega
                      have hr := Lib.hid (show nodeVB 2 n0 ⟨#[]⟩ ls ts.length = false by unfold nodeVB; simp [ht0])
                      clear hl0z ht0 hk4 hk3 e4 e3 e3' hk1 e1
                      go_wp2_with fail
                      refine HNB'.out.mono ?_
                      rintro e w1 ⟨rfl, rfl⟩
                      go_wp2
                      go_ret
                      exact ⟨by rw [hres.out, hr.out]; rfl, hb'⟩
                  · have e2 : (k0 == 2) = false := by rw [beq_eq_false_iff_ne]; exact hk2
                    by_cases hk5 : k0 = 5
                    · subst hk5
                      by_cases hn0 : n0 = 0
                      · have i2 : (n0 == 0) = true := by rw [beq_iff_eq]; exact hn0
                        have hr := Lib.hid (show nodeVB 5 n0 ⟨#[]⟩ ls ts.length = true by unfold nodeVB; simp [hl0z, hn0, ByteArray.size])
                        clear hl0z hn0 hk4 hk3 e4 e3 e3' hk1 e1 hk2 e2
                        go_wp2_with fail
                        refine HNB'.out.mono ?_
                        rintro e w1 ⟨rfl, rfl⟩
                        go_wp2
                        go_ret
                        exact ⟨by rw [hres.out, hr.out]; rfl, hb'⟩
                      · have i2 : (n0 == 0) = false := by rw [beq_eq_false_iff_ne]; exact hn0
                        have hr := Lib.hid (show nodeVB 5 n0 ⟨#[]⟩ ls ts.length = false by unfold nodeVB; simp [hn0])
                        clear hl0z hn0 hk4 hk3 e4 e3 e3' hk1 e1 hk2 e2
                        go_wp2_with fail
                        refine HNB'.out.mono ?_
                        rintro e w1 ⟨rfl, rfl⟩
                        go_wp2
                        go_ret
                        exact ⟨by rw [hres.out, hr.out]; rfl, hb'⟩
                    · have e5 : (k0 == 5) = false := by rw [beq_eq_false_iff_ne]; exact hk5
                      have hr := Lib.hid (nodeVB_other k0 n0 ⟨#[]⟩ ls ts.length hk1 hk2 hk3 hk4 hk5)
                      clear hl0z hk4 hk3 hk1 hk2 hk5
                      go_wp2_with fail
                      refine HNB'.out.mono ?_
                      rintro e w1 ⟨rfl, rfl⟩
                      go_wp2
                      go_ret
                      exact ⟨by rw [hres.out, hr.out]; rfl, hb'⟩
              · have i1 : (ls.length : Int) > 0 := by omega
                have hr := Lib.hid (nodeVB_labels k0 n0 ⟨#[]⟩ ls ts.length hl0z hk3)
                clear hl0z hk3 hk4
                go_wp2_with fail
                refine HNB'.out.mono ?_
                rintro e w1 ⟨rfl, rfl⟩
                go_wp2
                go_ret
                exact ⟨by rw [hres.out, hr.out]; rfl, hb'⟩
          · have hq : (nm.toList == []) = false := toList_nil_no hs0
            have hr := Lib.hid (nodeVB_name k0 n0 nm ls ts.length hs0 hk4)
            clear hs0 hk4
            go_wp2_with fail
            refine HNB'.out.mono ?_
            rintro e w1 ⟨rfl, rfl⟩
            go_wp2
            go_ret
            exact ⟨by rw [hres.out, hr.out]; rfl, hb'⟩
        · rw [hin] at HNB
          have HNB' := Lib.hid HNB
          have hsz := hnn hin
          have hr := Lib.hid (nodeVB_name k0 n0 nm ls ts.length (by omega) hk4)
          clear hin HNB hnn hk4
          go_wp2_with fail
          refine HNB'.out.mono ?_
          rintro e w1 ⟨rfl, rfl⟩
          go_wp2
          go_ret
          exact ⟨by rw [hres.out, hr.out]; rfl, hb'⟩

theorem specFormV_any (t : Va) : FormVOne 45 t := by
  induction t using Va.ind with
  | h k n nm ls ts ih => exact specFormV_of k n nm ls ts ih

/-- Is it a value? -/
def valueB (t : Va) : Bool := decide (sizeVa t ≤ 300) && formVa t

set_option maxHeartbeats 1000000 in
theorem specIsValue_any (t : Va) (v : Value) (w : World) (hv : VaAt w w.heap.size v t) (hsz : szVa t ≤ 1048576) :
    Calls Tryd.prog 15 #[v] w (BoolIs (valueB t) w) := by
  have hv0 := hv
  have HL := Lib.hid (fun W h => specLeftV_any t v 300 W h (by omega) (by omega))
  have HF := Lib.hid (fun W h => specFormV_any t v W h hsz)
  obtain ⟨L, lc, A, ac, rfl, _, _, _, _, _⟩ := hv.open
  obtain ⟨hb0, p0, hs0⟩ := boxes1 w 27 #[.int .i64 t.kind, .int .i64 t.num, .string t.name, .slice L t.labels.length lc, .slice A t.args.length ac]
  have hv1 := hv0.up hb0
  have hpl := p0.lt
  have HZ := Lib.hid hs0
  clear hs0 hv hv0
  go_enter Tryd.func15, Tryd.ntmps15
  go_wp2_with fail
  generalize w.alloc (.cells #[.int .i64 t.kind, .int .i64 t.num, .string t.name, .slice L t.labels.length lc, .slice A t.args.length ac] 27) = w0 at *
  refine (HL.out w0 hv1).mono ?_
  rintro e w1 ⟨rfl, hb1⟩
  have hb1' := hb0.trans (hb1.mono hb0.size)
  by_cases h30 : sizeVa t ≤ 300
  · rw [show leftOf 300 (sizeVa t) = 300 - sizeVa t by unfold leftOf; rw [if_neg (by omega)]]
    have i1 : (0 : Int) ≤ 300 - sizeVa t := by omega
    have p1 := p0.below hb1 hpl
    have hv2 := hv1.up hb1
    have c0 : w1.cell? ⟨w.heap.size, 0, none⟩ = some (.int .i64 t.kind) := p1.cell 0
    have c1 : w1.cell? ⟨w.heap.size, 1, none⟩ = some (.int .i64 t.num) := p1.cell 1
    have c2 : w1.cell? ⟨w.heap.size, 2, none⟩ = some (.string t.name) := p1.cell 2
    have c3 : w1.cell? ⟨w.heap.size, 3, none⟩ = some (.slice L t.labels.length lc) := p1.cell 3
    have c4 : w1.cell? ⟨w.heap.size, 4, none⟩ = some (.slice A t.args.length ac) := p1.cell 4
    have hr := Lib.hid (show valueB t = formVa t by unfold valueB; simp [h30])
    clear h30
    go_wp2_with fail
    refine (HF.out w1 hv2).mono ?_
    rintro e w2 ⟨rfl, hb2⟩
    go_wp2
    go_ret
    exact ⟨by rw [hr.out]; rfl, hb1'.trans (hb2.mono hb1'.size)⟩
  · rw [show leftOf 300 (sizeVa t) = -1 by unfold leftOf; rw [if_pos (by omega)]]
    have hr := Lib.hid (show valueB t = false by unfold valueB; simp [h30])
    clear h30
    go_wp2
    go_ret
    exact ⟨by rw [hr.out]; rfl, hb1'⟩

end Go.Proofs.YtlmbnefoobameaaDoor
end

section
namespace Go.Proofs.YtlmbnefoobameaaDoor

/-- What digits spell. -/
def valD (l : List UInt8) : Nat := l.foldl (fun a c => 10 * a + (c.toNat - 48)) 0
theorem valD_snoc (l : List UInt8) (c : UInt8) : valD (l ++ [c]) = 10 * valD l + (c.toNat - 48) := by simp [valD]
def IsDig (c : UInt8) : Prop := 48 ≤ c.toNat ∧ c.toNat ≤ 57

theorem digit_toNat (d : Nat) (h : d < 10) : (UInt8.ofNat (48 + d)).toNat = 48 + d := by
  rw [UInt8.toNat_ofNat']
  omega

theorem dec_rec (P : Nat → List UInt8 → Prop) (h1 : ∀ u, u < 10 → P u [UInt8.ofNat (48 + u)]) (h2 : ∀ u, 10 ≤ u → P (u / 10) (Lib.decDigits (u / 10)) → P u (Lib.decDigits (u / 10) ++ [UInt8.ofNat (48 + u % 10)])) (u : Nat) : P u (Lib.decDigits u) := by
  induction u using Nat.strongRecOn with
  | ind u ih =>
    rw [Lib.decDigits]
    by_cases h : u < 10
    · rw [dif_pos h]; exact h1 u h
    · rw [dif_neg h]; exact h2 u (by omega) (ih _ (by omega))

theorem dec_val (u : Nat) : valD (Lib.decDigits u) = u := by
  refine dec_rec (fun u l => valD l = u) (fun u h => ?_) (fun u h ih => ?_) u
  · show 10 * 0 + ((UInt8.ofNat (48 + u)).toNat - 48) = u
    rw [digit_toNat u h]
    omega
  · rw [valD_snoc, ih, digit_toNat _ (by omega)]
    omega
theorem dec_dig (u : Nat) : ∀ c ∈ Lib.decDigits u, IsDig c := by
  refine dec_rec (fun u l => ∀ c ∈ l, IsDig c) (fun u h c hc => ?_) (fun u h ih c hc => ?_) u
  · rw [List.mem_singleton.1 hc]
    have := digit_toNat u h
    exact ⟨by omega, by omega⟩
  · rcases List.mem_append.1 hc with hc | hc
    · exact ih c hc
    · rw [List.mem_singleton.1 hc]
      have := digit_toNat (u % 10) (by omega)
      exact ⟨by omega, by omega⟩
theorem dec_ne (u : Nat) : Lib.decDigits u ≠ [] := by
  refine dec_rec (fun u l => l ≠ []) (fun u h => ?_) (fun u h ih => ?_) u <;> simp
theorem dec_len (k : Nat) : ∀ u, u < 10 ^ (k + 1) → (Lib.decDigits u).length ≤ k + 1 := by
  induction k with
  | zero => intro u h; rw [Lib.decDigits, dif_pos (by simpa using h)]; simp
  | succ k ih =>
    intro u h
    rw [Lib.decDigits]
    by_cases h1 : u < 10
    · rw [dif_pos h1]; simp
    · rw [dif_neg h1, List.length_append]
      have := ih (u / 10) (by rw [Nat.div_lt_iff_lt_mul (by omega)]; rw [Nat.pow_succ 10 (k + 1)] at h; exact h)
      simp
      omega

theorem parse_snoc : ∀ (l : List UInt8) (acc v : Nat) (c : UInt8), Lib.parseUint10 acc l = .ok v → IsDig c → v * 10 + (c.toNat - 48) < 18446744073709551616 → Lib.parseUint10 acc (l ++ [c]) = .ok (v * 10 + (c.toNat - 48))
  | [], acc, v, c, h, hc, hv => by
    simp only [Lib.parseUint10] at h
    injection h with h
    subst h
    simp only [List.nil_append, Lib.parseUint10]
    rw [if_pos (show 48 ≤ c.toNat ∧ c.toNat ≤ 57 from hc), if_neg (by omega), if_neg (by omega)]
  | b :: l, acc, v, c, h, hc, hv => by
    simp only [Lib.parseUint10] at h
    simp only [List.cons_append, Lib.parseUint10]
    split at h
    · rename_i hb
      rw [if_pos hb]
      split at h
      · cases h
      · rename_i h1
        rw [if_neg h1]
        split at h
        · cases h
        · rename_i h2
          rw [if_neg h2]
          exact parse_snoc l _ v c h hc hv
    · cases h
theorem parse_dec (u : Nat) (hu : u < 18446744073709551616) : Lib.parseUint10 0 (Lib.decDigits u) = .ok u := by
  refine dec_rec (fun u l => u < 18446744073709551616 → Lib.parseUint10 0 l = .ok u) (fun u h hu => ?_) (fun u h ih hu => ?_) u hu
  · have hd := digit_toNat u h
    have := parse_snoc [] 0 0 (UInt8.ofNat (48 + u)) rfl ⟨by omega, by omega⟩ (by omega)
    rw [List.nil_append, hd] at this
    rw [this]
    congr 1
    omega
  · have hd := digit_toNat (u % 10) (by omega)
    have := parse_snoc _ 0 (u / 10) (UInt8.ofNat (48 + u % 10)) (ih (by omega)) ⟨by omega, by omega⟩ (by omega)
    rw [this, hd]
    congr 1
    omega

theorem atoi_itoa (n : Int) (h0 : -9223372036854775808 ≤ n) (h1 : n ≤ 9223372036854775807) : Lib.atoiAll (Lib.itoa n) = .ok n := by
  unfold Lib.itoa
  by_cases h : n < 0
  · rw [if_pos h]
    have hp := parse_dec n.natAbs (by omega)
    simp only [Lib.atoiAll]
    rw [if_pos (by decide), Lib.parseMag, if_neg (dec_ne _), hp]
    simp only []
    rw [if_neg (by simp), if_neg (by omega), if_pos (by decide)]
    congr 1
    omega
  · rw [if_neg h]
    have hp := parse_dec n.toNat (by omega)
    obtain ⟨c, r, hcr⟩ : ∃ c r, Lib.decDigits n.toNat = c :: r := by
      cases hl : Lib.decDigits n.toNat with
      | nil => exact absurd hl (dec_ne _)
      | cons c r => exact ⟨c, r, rfl⟩
    have hc : IsDig c := dec_dig n.toNat c (by rw [hcr]; simp)
    unfold IsDig at hc
    rw [hcr] at hp ⊢
    simp only [Lib.atoiAll]
    rw [if_neg (by omega), Lib.parseMag, if_neg (by simp), hp]
    simp only []
    rw [if_neg (by omega), if_neg (by omega), if_neg (by omega)]
    congr 1
    omega

theorem itoa_inj (n m : Int) (h0 : -9223372036854775808 ≤ n) (h1 : n ≤ 9223372036854775807) (h2 : -9223372036854775808 ≤ m) (h3 : m ≤ 9223372036854775807) (h : Lib.itoa n = Lib.itoa m) : n = m := by
  have e := atoi_itoa n h0 h1
  rw [h, atoi_itoa m h2 h3] at e
  injection e with e
  exact e.symm

end Go.Proofs.YtlmbnefoobameaaDoor
end

section
namespace Go.Proofs.YtlmbnefoobameaaDoor

def behind (l : List UInt8) : List UInt8 := if l.head? = some 45 then l.tail else l
def sign (l : List UInt8) (u : Nat) : Int := if l.head? = some 45 then -(u : Int) else u

theorem itoa_behind (n : Int) : behind (Lib.itoa n) = Lib.decDigits n.natAbs ∧ (n = sign (Lib.itoa n) n.natAbs) := by
  unfold behind sign Lib.itoa
  by_cases h : n < 0
  · rw [if_pos h]
    simp
    omega
  · rw [if_neg h]
    have e : n.toNat = n.natAbs := by omega
    rw [e]
    have hh : (Lib.decDigits n.natAbs).head? ≠ some 45 := by
      intro hc
      have := dec_dig n.natAbs 45 (List.mem_of_mem_head? hc)
      unfold IsDig at this
      simp at this
    rw [if_neg hh, if_neg hh]
    exact ⟨rfl, by omega⟩

/-- Why a string is no numeral of at most k + 1 digits. -/
theorem no_short {l : List UInt8} {k : Nat} (h : (behind l).length < 1 ∨ k + 1 < (behind l).length) (n : Int) (hn : n.natAbs < 10 ^ (k + 1)) : l ≠ Lib.itoa n := by
  rintro rfl
  rw [(itoa_behind n).1] at h
  have h1 := dec_len k n.natAbs hn
  have h2 := List.length_pos_iff.2 (dec_ne n.natAbs)
  omega
theorem no_digit {l : List UInt8} {c : UInt8} (hc : c ∈ behind l) (h : ¬ IsDig c) (n : Int) : l ≠ Lib.itoa n := by
  rintro rfl
  rw [(itoa_behind n).1] at hc
  exact h (dec_dig _ c hc)
theorem the_number {l : List UInt8} (n : Int) (h : l = Lib.itoa n) : n = sign l (valD (behind l)) := by
  subst h
  rw [(itoa_behind n).1, dec_val]
  exact (itoa_behind n).2

theorem valD_take (l : List UInt8) (k : Nat) (h : k < l.length) : valD (l.take (k + 1)) = 10 * valD (l.take k) + (l[k].toNat - 48) := by
  rw [List.take_succ_eq_append_getElem h, valD_snoc]
theorem valD_lt (l : List UInt8) (k : Nat) : k ≤ l.length → (∀ i, (h : i < l.length) → i < k → IsDig l[i]) → valD (l.take k) < 10 ^ k := by
  induction k with
  | zero => intro _ _; simp [valD]
  | succ k ih =>
    intro hk hd
    have h1 := ih (by omega) (fun i h hi => hd i h (by omega))
    have h2 := hd k (by omega) (by omega)
    unfold IsDig at h2
    rw [valD_take l k (by omega), Nat.pow_succ]
    omega

end Go.Proofs.YtlmbnefoobameaaDoor
end

section
namespace Go.Proofs.YtlmbnefoobameaaDoor
open Go.RowKit

mutual
/-- Every number fits an int. -/
def numsB : Va → Bool | .mk _ n _ _ ts => decide (-9223372036854775808 ≤ n ∧ n ≤ 9223372036854775807) && numsBs ts
def numsBs : List Va → Bool | [] => true | t :: r => numsB t && numsBs r
end
theorem numsBs_all : ∀ (ts : List Va), (∀ i, (h : i < ts.length) → numsB ts[i] = true) → numsBs ts = true
  | [], _ => by rw [numsBs]
  | t :: r, h => by
    rw [numsBs, show numsB t = true from h 0 (by simp), numsBs_all r fun i hi => h (i + 1) (by simpa using hi)]
    rfl
theorem numsBs_at : ∀ (ts : List Va), numsBs ts = true → ∀ i, (h : i < ts.length) → numsB ts[i] = true
  | [], _, i, h => absurd h (by simp)
  | t :: r, e, i, h => by
    rw [numsBs, Bool.and_eq_true] at e
    cases i with
    | zero => exact e.1
    | succ i => exact numsBs_at r e.2 i (by simpa using h)
theorem numsB_mk (k n : Int) (nm : ByteArray) (ls : List ByteArray) (ts : List Va) (h : -9223372036854775808 ≤ n ∧ n ≤ 9223372036854775807) (h2 : ∀ i, (h : i < ts.length) → numsB ts[i] = true) : numsB (.mk k n nm ls ts) = true := by
  rw [numsB, numsBs_all ts h2]
  simp [h]
theorem numsB_of (t : Va) (h : numsB t = true) : (-9223372036854775808 ≤ t.num ∧ t.num ≤ 9223372036854775807) ∧ ∀ i, (h : i < t.args.length) → numsB t.args[i] = true := by
  cases t
  rw [numsB, Bool.and_eq_true, decide_eq_true_eq] at h
  exact ⟨h.1, numsBs_at _ h.2⟩

end Go.Proofs.YtlmbnefoobameaaDoor
end

section
namespace Go.Proofs.YtlmbnefoobameaaDoor
open Go.RowKit

mutual
/-- Every number is small. -/
def smallB : Va → Bool | .mk _ n _ _ ts => decide (-999999999999 ≤ n ∧ n ≤ 999999999999) && smallBs ts
def smallBs : List Va → Bool | [] => true | t :: r => smallB t && smallBs r
end
theorem smallBs_all : ∀ (ts : List Va), (∀ i, (h : i < ts.length) → smallB ts[i] = true) → smallBs ts = true
  | [], _ => by rw [smallBs]
  | t :: r, h => by
    rw [smallBs, show smallB t = true from h 0 (by simp), smallBs_all r fun i hi => h (i + 1) (by simpa using hi)]
    rfl
theorem smallBs_at : ∀ (ts : List Va), smallBs ts = true → ∀ i, (h : i < ts.length) → smallB ts[i] = true
  | [], _, i, h => absurd h (by simp)
  | t :: r, e, i, h => by
    rw [smallBs, Bool.and_eq_true] at e
    cases i with
    | zero => exact e.1
    | succ i => exact smallBs_at r e.2 i (by simpa using h)
theorem smallB_mk (k n : Int) (nm : ByteArray) (ls : List ByteArray) (ts : List Va) (h : -999999999999 ≤ n ∧ n ≤ 999999999999) (h2 : ∀ i, (h : i < ts.length) → smallB ts[i] = true) : smallB (.mk k n nm ls ts) = true := by
  rw [smallB, smallBs_all ts h2]
  simp [h]
theorem smallB_of (t : Va) (h : smallB t = true) : (-999999999999 ≤ t.num ∧ t.num ≤ 999999999999) ∧ ∀ i, (h : i < t.args.length) → smallB t.args[i] = true := by
  cases t
  rw [smallB, Bool.and_eq_true, decide_eq_true_eq] at h
  exact ⟨h.1, smallBs_at _ h.2⟩
theorem smallB_nums (t : Va) : smallB t = true → numsB t = true := by
  induction t using Va.ind with
  | h k n nm ls ts ih =>
    intro h
    obtain ⟨h1, h2⟩ := smallB_of _ h
    simp only [Va.num, Va.args] at h1 h2
    exact numsB_mk _ _ _ _ _ (by omega) fun i hi => ih i hi (h2 i hi)
theorem smallBs_mem : ∀ {ts : List Va}, smallBs ts = true → ∀ t ∈ ts, smallB t = true
  | [], _, t, h => by cases h
  | a :: r, h, t, ht => by
    rw [smallBs, Bool.and_eq_true] at h
    rcases List.mem_cons.1 ht with rfl | h2
    · exact h.1
    · exact smallBs_mem h.2 t h2
theorem smallBs_of : ∀ (ts : List Va), (∀ t ∈ ts, smallB t = true) → smallBs ts = true := fun ts h => smallBs_all ts fun _ hi => h _ (List.getElem_mem hi)

end Go.Proofs.YtlmbnefoobameaaDoor
end
