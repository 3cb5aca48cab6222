/- spec.l3Labels, spec.l3Form, spec.IsValidType. -/
import Derived.Test.YtmacbkcjeamaeaaSpecTy2
import Derived.Test.YtmacbkcjeamaeaaSpecName
import Derived.Test.YtmacbkcjeamaeaaSpecNames
namespace Go.Proofs.Ytmacbkcjeamaeaa
open Go.RowKit

/-- A bool is handed back; what was there stands. -/
def BoolIs (b : Bool) (w : World) (e : Ending) (w' : World) : Prop := e = .returned (.bool b) ∧ Below w.heap.size w w'

theorem l1In_yes (x lo hi : Int) (w : World) (h1 : lo ≤ x) (h2 : x ≤ hi) : Calls Try.prog 102 #[.int .i64 x, .int .i64 lo, .int .i64 hi] w fun e w' => e = .returned (.bool true) ∧ w = w' := by
  go_enter Try.func102, Try.ntmps102
  go_wp2
  go_ret
  exact ⟨rfl, rfl⟩
theorem l1In_no (x lo hi : Int) (w : World) (h : x < lo ∨ hi < x) : Calls Try.prog 102 #[.int .i64 x, .int .i64 lo, .int .i64 hi] w fun e w' => e = .returned (.bool false) ∧ w = w' := by
  by_cases h1 : lo ≤ x
  · have h2 : ¬ x ≤ hi := by omega
    clear h
    go_enter Try.func102, Try.ntmps102
    go_wp2
    go_ret
    exact ⟨rfl, rfl⟩
  · clear h
    go_enter Try.func102, Try.ntmps102
    go_wp2
    go_ret
    exact ⟨rfl, rfl⟩

/-- Can they be the labels of a record or a sum? -/
def labelsB (ls : List ByteArray) : Bool := ls.all isNameB && (decide (1 ≤ ls.length) && decide (ls.length ≤ 4)) && ascB ls
theorem labelsB_no (ls : List ByteArray) (k : Nat) (h : k < ls.length) (hn : isNameB ls[k] = false) : labelsB ls = false := by
  have : ls.all isNameB = false := by
    rw [List.all_eq_false]
    exact ⟨_, List.getElem_mem h, by rw [hn]; simp⟩
  unfold labelsB
  rw [this]
  rfl
theorem labelsB_all (ls : List ByteArray) (h : ∀ k, (hk : k < ls.length) → isNameB ls[k] = true) : labelsB ls = ((decide (1 ≤ ls.length) && decide (ls.length ≤ 4)) && ascB ls) := by
  have : ls.all isNameB = true := by
    rw [List.all_eq_true]
    intro x hx
    obtain ⟨i, hi, rfl⟩ := List.getElem_of_mem hx
    exact h i hi
  unfold labelsB
  rw [this, Bool.true_and]

set_option maxHeartbeats 1000000 in
theorem specLabels_any (A : Option Addr) (c : Nat) (ss : List ByteArray) (w : World) (hA : StrsAt w w.heap.size A ss) (hn : ss.length < maxLen) (hs : ∀ i, (h : i < ss.length) → ss[i].size ≤ maxLen) :
    Calls Try.prog 81 #[.slice A ss.length c] w (BoolIs (labelsB ss) w) := by
  have hasc := Lib.hid (specAreAscending_any A c w.heap.size ss w hA hn)
  unfold maxLen at hn
  have HS := Lib.hid hs
  clear hs
  go_enter Try.func81, Try.ntmps81
  go_wp2
  go_loop [3] (fun i => ∃ k : Nat, k ≤ ss.length ∧ i = .int .i64 k ∧ ∀ j, (hj : j < ss.length) → j < k → isNameB ss[j] = true) (fun i => ss.length - (intOf i).toNat)
  case atStart => exact ⟨0, Nat.zero_le _, rfl, fun j _ h => absurd h (by omega)⟩
  case round =>
    obtain ⟨k, hk, rfl, hall⟩ := hrel
    have HA := Lib.hid hall
    clear hall
    by_cases hlt : k < ss.length
    · obtain ⟨b, off, rfl, _, hcell⟩ := hA k hlt
      have hnm := specIsName_any ss[k] w (HS.out k hlt)
      cases hb : isNameB ss[k]
      · have hd := Lib.hid (labelsB_no ss k hlt hb)
        rw [hb] at hnm
        have HN := Lib.hid hnm
        clear hb hnm
        go_wp2_with fail
        refine HN.out.mono ?_
        rintro e w1 ⟨rfl, rfl⟩
        go_wp2
        go_ret
        exact ⟨by rw [hd.out]; rfl, Below.refl _ _⟩
      · rw [hb] at hnm
        have HN := Lib.hid hnm
        have HB := Lib.hid hb
        clear hb hnm
        go_wp2_with fail
        refine HN.out.mono ?_
        rintro e w1 ⟨rfl, rfl⟩
        go_wp2
        go_round
        case rel =>
          refine ⟨k + 1, by omega, by go_num, fun j hj h => ?_⟩
          by_cases e : j = k
          · subst e
            exact HB.out
          · exact HA.out j hj (by omega)
        case measure => simp [intOf]; omega
    · have hd := Lib.hid (labelsB_all ss (fun j hj => HA.out j hj (by omega)))
      by_cases h1 : 1 ≤ ss.length ∧ ss.length ≤ 4
      · have i1 : (1 : Int) ≤ ss.length := by omega
        have i2 : (ss.length : Int) ≤ 4 := by omega
        have he := Lib.hid (show labelsB ss = ascB ss by rw [hd.out]; simp [h1])
        clear h1
        go_wp2_with fail
        refine (l1In_yes _ 1 4 w i1 i2).mono ?_
        rintro e w1 ⟨rfl, rfl⟩
        go_wp2_with fail
        refine hasc.out.mono ?_
        rintro e w1 ⟨rfl, n, rfl⟩
        go_wp2
        go_ret
        exact ⟨by rw [he.out]; rfl, ⟨rfl, rfl, rfl, Nat.le_refl _, fun _ _ => rfl⟩⟩
      · have i1 : (ss.length : Int) < 1 ∨ 4 < (ss.length : Int) := by omega
        have he := Lib.hid (show labelsB ss = false by
          rw [hd.out]
          have : (decide (1 ≤ ss.length) && decide (ss.length ≤ 4)) = false := by
            simp only [Bool.and_eq_false_iff, decide_eq_false_iff_not]
            omega
          rw [this]
          rfl)
        clear h1
        go_wp2_with fail
        refine (l1In_no _ 1 4 w i1).mono ?_
        rintro e w1 ⟨rfl, rfl⟩
        go_wp2
        go_ret
        exact ⟨by rw [he.out]; rfl, Below.refl _ _⟩

/-- Has a node of this kind these labels and so many parts? -/
def nodeB (k : Int) (ls : List ByteArray) (m : Nat) : Bool :=
  if k = 1 ∨ k = 2 then decide (ls.length = 0) && decide (m = 0) else if k = 3 ∨ k = 4 then decide (m = ls.length) && labelsB ls else if k = 5 then decide (ls.length = 0) && decide (m = 1) else false
mutual
/-- Has every node one of the forms? -/
def formTy : Ty → Bool | .mk k ls ts => formTys ts && nodeB k ls ts.length
def formTys : List Ty → Bool | [] => true | t :: r => formTy t && formTys r
end
theorem formTys_all : ∀ (ts : List Ty), (∀ i, (h : i < ts.length) → formTy ts[i] = true) → formTys ts = true
  | [], _ => by rw [formTys]
  | t :: r, h => by
    rw [formTys, show formTy t = true from h 0 (by simp), formTys_all r fun i hi => h (i + 1) (by simpa using hi)]
    rfl
theorem formTys_no : ∀ (ts : List Ty) (i : Nat) (h : i < ts.length), formTy ts[i] = false → formTys ts = false
  | [], i, h, _ => absurd h (by simp)
  | t :: r, 0, _, e => by
    rw [formTys]
    have : formTy t = false := e
    rw [this]
    rfl
  | t :: r, i + 1, h, e => by
    rw [formTys, formTys_no r i (by simpa using h) (by simpa using e), Bool.and_false]

def FormOne (f : Nat) (t : Ty) : Prop := ∀ (v : Value) (w : World), TyAt w w.heap.size v t → szTy t ≤ 1048576 → Calls Try.prog f #[v] w (BoolIs (formTy t) w)

set_option maxHeartbeats 4000000 in
theorem specForm_of (k0 : Int) (ls : List ByteArray) (ts : List Ty) (hall : ∀ i, (h : i < ts.length) → FormOne 42 ts[i]) : FormOne 42 (.mk k0 ls ts) := by
  intro v w hv hsz
  have hse := szTy_eq (.mk k0 ls ts)
  have hfe : formTy (.mk k0 ls ts) = (formTys ts && nodeB k0 ls ts.length) := by rw [formTy]
  obtain ⟨L, lc, A, ac, rfl, hn, hz, hl, ha⟩ := hv.open
  simp only [Ty.kind, Ty.labels, Ty.args] at *
  have hm := ha.1
  have hnl : ls.length < maxLen := by unfold maxLen; omega
  unfold maxLen at hm hn
  have hsz2 : szTys ts ≤ 1048576 := by omega
  have HALL := Lib.hid hall
  have HZ2 := Lib.hid hz
  have HFE := Lib.hid hfe
  clear hall hv hz hfe hse
  obtain ⟨hb0, p0, hs0⟩ := boxes1 w 27 #[.int .i64 k0, .slice L ls.length lc, .slice A ts.length ac]
  have ha0 := ha.up hb0
  have hl0 := hl.up' hb0
  have HZ := Lib.hid hs0
  clear ha hl hs0
  go_enter Try.func42, Try.ntmps42
  go_wp2
  generalize w.alloc (.cells #[.int .i64 k0, .slice L ls.length lc, .slice A ts.length ac] 27) = w0 at *
  have hpl := p0.lt
  go_loopw [3] (fun i wr => ∃ k : Nat, k ≤ ts.length ∧ i = .int .i64 k ∧ (∀ j, (hj : j < ts.length) → j < k → formTy ts[j] = true) ∧ Below w0.heap.size w0 wr) (fun i _ => ts.length - (intOf i).toNat)
  case atStart => exact ⟨0, Nat.zero_le _, rfl, fun j _ h => absurd h (by omega), Below.refl _ _⟩
  case round =>
    obtain ⟨k, hk, rfl, hall, hb⟩ := hrel
    have HA := Lib.hid hall
    clear hall
    have p1 := p0.below hb hpl
    have c2 : wr.cell? ⟨w.heap.size, 2, none⟩ = some (.slice A ts.length ac) := p1.cell 2
    by_cases hlt : k < ts.length
    · obtain ⟨b, off, L1, lc1, A1, ac1, rfl, hbl, q0, q1, q2, _, _, _, _, ht⟩ := (ha0.below hb).elem k hlt
      have hpt := szTy_part ts k hlt
      have HT := HALL.out k hlt _ wr (ht.more hb.size) (by omega)
      cases hfk : formTy ts[k]
      · rw [hfk] at HT
        have HT' := Lib.hid HT
        have hr := Lib.hid (show formTy (.mk k0 ls ts) = false by rw [HFE.out, formTys_no ts k hlt hfk]; rfl)
        clear ht p1 HT hfk
        go_wp2_with fail
        refine HT'.out.mono ?_
        rintro e w1 ⟨rfl, hb1⟩
        go_wp2
        go_ret
        exact ⟨by rw [hr.out]; rfl, hb0.trans ((hb.trans (hb1.mono hb.size)).mono hb0.size)⟩
      · rw [hfk] at HT
        have HT' := Lib.hid HT
        have HK := Lib.hid hfk
        clear ht p1 HT hfk
        go_wp2_with fail
        refine HT'.out.mono ?_
        rintro e w1 ⟨rfl, hb1⟩
        go_wp2
        go_roundw
        case rel =>
          refine ⟨k + 1, by omega, by go_num, fun j hj h => ?_, hb.trans (hb1.mono hb.size)⟩
          by_cases e : j = k
          · subst e
            exact HK.out
          · exact HA.out j hj (by omega)
        case measure => simp [intOf]; omega
    · have hke : k = ts.length := by omega
      subst hke
      have hft := Lib.hid (formTys_all ts fun i hi => HA.out i hi hi)
      have c0 : wr.cell? ⟨w.heap.size, 0, none⟩ = some (.int .i64 k0) := p1.cell 0
      have c1 : wr.cell? ⟨w.heap.size, 1, none⟩ = some (.slice L ls.length lc) := p1.cell 1
      have hb' := hb0.trans (hb.mono hb0.size)
      have hres : Hid (formTy (.mk k0 ls ts) = nodeB k0 ls ts.length) := Lib.hid (by rw [HFE.out, hft.out]; rfl)
      clear p1
      by_cases h12 : k0 = 1 ∨ k0 = 2
      · have hnode : nodeB k0 ls ts.length = (decide (ls.length = 0) && decide (ts.length = 0)) := by unfold nodeB; rw [if_pos h12]
        have HN := Lib.hid hnode
        clear hnode
        by_cases hl1 : ls.length = 0
        · by_cases ht1 : ts.length = 0
          · have hr := Lib.hid (show nodeB k0 ls ts.length = true by rw [HN.out]; simp [hl1, ht1])
            have i1 : ((ls.length : Int) == 0) = true := by rw [beq_iff_eq]; omega
            have i2 : ((ts.length : Int) == 0) = true := by rw [beq_iff_eq]; omega
            clear hl1 ht1
            rcases h12 with rfl | rfl
            all_goals
              go_wp2
              go_ret
              exact ⟨by rw [hres.out, hr.out]; rfl, hb'⟩
          · have hr := Lib.hid (show nodeB k0 ls ts.length = false by rw [HN.out]; simp [ht1])
            have i1 : ((ls.length : Int) == 0) = true := by rw [beq_iff_eq]; omega
            have i2 : ((ts.length : Int) == 0) = false := by rw [beq_eq_false_iff_ne]; omega
            clear hl1 ht1
            rcases h12 with rfl | rfl
            all_goals
              go_wp2
              go_ret
              exact ⟨by rw [hres.out, hr.out]; rfl, hb'⟩
        · have hr := Lib.hid (show nodeB k0 ls ts.length = false by rw [HN.out]; simp [hl1])
          have i1 : ((ls.length : Int) == 0) = false := by rw [beq_eq_false_iff_ne]; omega
          clear hl1
          rcases h12 with rfl | rfl
          all_goals
            go_wp2
            go_ret
            exact ⟨by rw [hres.out, hr.out]; rfl, hb'⟩
      · have e1 : (k0 == 1) = false := by rw [beq_eq_false_iff_ne]; omega
        have e2 : (k0 == 2) = false := by rw [beq_eq_false_iff_ne]; omega
        by_cases h34 : k0 = 3 ∨ k0 = 4
        · have hnode : nodeB k0 ls ts.length = (decide (ts.length = ls.length) && labelsB ls) := by unfold nodeB; rw [if_neg h12, if_pos h34]
          have HN := Lib.hid hnode
          clear hnode h12
          by_cases hlt2 : ts.length = ls.length
          · have hr := Lib.hid (show nodeB k0 ls ts.length = labelsB ls by rw [HN.out]; simp [hlt2])
            have i1 : ((ts.length : Int) == (ls.length : Int)) = true := by rw [beq_iff_eq]; omega
            have hlab := Lib.hid (specLabels_any L lc ls wr (hl0.up' hb) hnl HZ2.out)
            clear hlt2
            rcases h34 with rfl | rfl
            all_goals
              go_wp2_with fail
              refine hlab.out.mono ?_
              rintro e w1 ⟨rfl, hb1⟩
              go_wp2
              go_ret
              exact ⟨by rw [hres.out, hr.out]; rfl, hb'.trans (hb1.mono hb'.size)⟩
          · have hr := Lib.hid (show nodeB k0 ls ts.length = false by rw [HN.out]; simp [hlt2])
            have i1 : ((ts.length : Int) == (ls.length : Int)) = false := by rw [beq_eq_false_iff_ne]; omega
            clear hlt2
            rcases h34 with rfl | rfl
            all_goals
              go_wp2
              go_ret
              exact ⟨by rw [hres.out, hr.out]; rfl, hb'⟩
        · have e3 : (k0 == 3) = false := by rw [beq_eq_false_iff_ne]; omega
          have e4 : (k0 == 4) = false := by rw [beq_eq_false_iff_ne]; omega
          by_cases h5 : k0 = 5
          · have hnode : nodeB k0 ls ts.length = (decide (ls.length = 0) && decide (ts.length = 1)) := by unfold nodeB; rw [if_neg h12, if_neg h34, if_pos h5]
            have HN := Lib.hid hnode
            clear hnode h12 h34
            subst h5
            by_cases hl1 : ls.length = 0
            · have i1 : ((ls.length : Int) == 0) = true := by rw [beq_iff_eq]; omega
              by_cases ht1 : ts.length = 1
              · have hr := Lib.hid (show nodeB 5 ls ts.length = true by rw [HN.out]; simp [hl1, ht1])
                have i2 : ((ts.length : Int) == 1) = true := by rw [beq_iff_eq]; omega
                clear hl1 ht1
                go_wp2
                go_ret
                exact ⟨by rw [hres.out, hr.out]; rfl, hb'⟩
              · have hr := Lib.hid (show nodeB 5 ls ts.length = false by rw [HN.out]; simp [ht1])
                have i2 : ((ts.length : Int) == 1) = false := by rw [beq_eq_false_iff_ne]; omega
                clear hl1 ht1
                go_wp2
                go_ret
                exact ⟨by rw [hres.out, hr.out]; rfl, hb'⟩
            · have hr := Lib.hid (show nodeB 5 ls ts.length = false by rw [HN.out]; simp [hl1])
              have i1 : ((ls.length : Int) == 0) = false := by rw [beq_eq_false_iff_ne]; omega
              clear hl1
              go_wp2
              go_ret
              exact ⟨by rw [hres.out, hr.out]; rfl, hb'⟩
          · have hr := Lib.hid (show nodeB k0 ls ts.length = false by unfold nodeB; rw [if_neg h12, if_neg h34, if_neg h5])
            have e5 : (k0 == 5) = false := by rw [beq_eq_false_iff_ne]; omega
            clear h12 h34 h5
            go_wp2
            go_ret
            exact ⟨by rw [hres.out, hr.out]; rfl, hb'⟩

theorem specForm_any (t : Ty) : FormOne 42 t := by
  induction t using Ty.ind with
  | h k ls ts ih => exact specForm_of k ls ts ih

end Go.Proofs.Ytmacbkcjeamaeaa
