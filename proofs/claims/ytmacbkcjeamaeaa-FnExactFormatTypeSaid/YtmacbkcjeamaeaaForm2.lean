/- impl.areLabels, impl.formOf. -/
import Derived.Test.YtmacbkcjeamaeaaImplIsName
import Derived.Test.YtmacbkcjeamaeaaImplNames
import Derived.Test.YtmacbkcjeamaeaaEqTy
import Derived.Test.YtmacbkcjeamaeaaSpecTy3

namespace Go.Proofs.Ytmacbkcjeamaeaa
set_option maxRecDepth 100000
open Go.RowKit

set_option maxHeartbeats 1000000 in
theorem areLabels_any (A : Option Addr) (c : Nat) (ss : List ByteArray) (w : World) (hA : StrsAt w w.heap.size A ss) (hn : ss.length < maxLen) (hs : ∀ i, (h : i < ss.length) → ss[i].size ≤ maxLen) :
    Calls Try.prog 90 #[.slice A ss.length c] w (BoolIs (labelsB ss) w) := by
  have hasc := Lib.hid (fun W h => implAreAscending_any A c w.heap.size ss W h hn)
  have hn2 := hn
  unfold maxLen at hn2
  have HS := Lib.hid hs
  clear hs hn
  by_cases h0 : ss.length = 0
  · have hr := Lib.hid (show labelsB ss = false by unfold labelsB; simp [h0])
    have i0 : ((ss.length : Int) == 0) = true := by rw [beq_iff_eq]; omega
    clear h0
    go_enter Try.func90, Try.ntmps90
    go_wp2
    go_ret
    exact ⟨by rw [hr.out]; rfl, Below.refl _ _⟩
  have i0 : ((ss.length : Int) == 0) = false := by rw [beq_eq_false_iff_ne]; omega
  by_cases h4 : ss.length ≤ 4
  · have i4 : ¬ (ss.length : Int) > 4 := by omega
    have H0 := Lib.hid h0
    have H4 := Lib.hid h4
    clear h0 h4
    go_enter Try.func90, Try.ntmps90
    go_wp2
    go_loopw [15] (fun i wr => ∃ k : Nat, k ≤ ss.length ∧ i = .int .i64 k ∧ (∀ j, (hj : j < ss.length) → j < k → isNameB ss[j] = true) ∧ Below w.heap.size w wr) (fun i _ => ss.length - (intOf i).toNat)
    case atStart => exact ⟨0, Nat.zero_le _, rfl, fun j _ h => absurd h (by omega), Below.refl _ _⟩
    case round =>
      obtain ⟨k, hk, rfl, hall, hb⟩ := hrel
      have HA := Lib.hid hall
      clear hall
      by_cases hlt : k < ss.length
      · obtain ⟨b, off, rfl, _, hcell⟩ := (hA.below hb) k hlt
        have hnm := implIsName_any ss[k] wr (HS.out k hlt)
        cases hnb : isNameB ss[k]
        · have hd := Lib.hid (labelsB_no ss k hlt hnb)
          rw [hnb] at hnm
          have HN := Lib.hid hnm
          clear hnb hnm
          go_wp2_with fail
          refine HN.out.mono ?_
          rintro e w1 ⟨rfl, hb1⟩
          go_wp2
          go_ret
          exact ⟨by rw [hd.out]; rfl, hb.trans (hb1.mono hb.size)⟩
        · rw [hnb] at hnm
          have HN := Lib.hid hnm
          have HB := Lib.hid hnb
          clear hnb hnm
          go_wp2_with fail
          refine HN.out.mono ?_
          rintro e w1 ⟨rfl, hb1⟩
          go_wp2
          go_roundw
          case rel =>
            refine ⟨k + 1, by omega, by go_num, fun j hj h => ?_, hb.trans (hb1.mono hb.size)⟩
            by_cases e : j = k
            · subst e
              exact HB.out
            · exact HA.out j hj (by omega)
          case measure => simp [intOf]; omega
      · have hd := Lib.hid (labelsB_all ss (fun j hj => HA.out j hj (by omega)))
        have he := Lib.hid (show labelsB ss = ascB ss by
          rw [hd.out]
          have h1 := H0.out
          have h2 := H4.out
          simp [h2]
          omega)
        have hA2 := hA.below hb
        go_wp2_with fail
        refine (hasc.out wr hA2).mono ?_
        rintro e w1 ⟨rfl, n, rfl⟩
        go_wp2
        go_ret
        exact ⟨by rw [he.out]; rfl, hb.trans ⟨rfl, rfl, rfl, Nat.le_refl _, fun _ _ => rfl⟩⟩
  · have i4 : (ss.length : Int) > 4 := by omega
    have hr := Lib.hid (show labelsB ss = false by unfold labelsB; simp [h4])
    clear h0 h4
    go_enter Try.func90, Try.ntmps90
    go_wp2
    go_ret
    exact ⟨by rw [hr.out]; rfl, Below.refl _ _⟩

/-- What formOf hands back of a node: nil, if it has no form. -/
def FormV (w : World) (L : Option Addr) (lc : Nat) (A : Option Addr) (ac : Nat) (k : Int) (ls : List ByteArray) (ts : List Ty) (fv : Value) : Prop :=
  (nodeB k ls ts.length = false ∧ fv = .nilIface) ∨ nodeB k ls ts.length = true ∧ ((k = 1 ∧ ts = [] ∧ fv = .iface 94 (.agg #[])) ∨ (k = 2 ∧ ts = [] ∧ fv = .iface 95 (.agg #[])) ∨ (k = 3 ∧ fv = .iface 82 (.agg #[.slice L ls.length lc, .slice A ts.length ac])) ∨
    (k = 4 ∧ fv = .iface 84 (.agg #[.slice L ls.length lc, .slice A ts.length ac])) ∨ (k = 5 ∧ ∃ (a b c : Value) (t : Ty), ts = [t] ∧ TyAt w w.heap.size (.agg #[a, b, c]) t ∧ fv = .iface 98 (.agg #[a, b, c])))
def FormPost (w : World) (L : Option Addr) (lc : Nat) (A : Option Addr) (ac : Nat) (k : Int) (ls : List ByteArray) (ts : List Ty) (e : Ending) (w' : World) : Prop := ∃ fv, e = .returned fv ∧ FormV w L lc A ac k ls ts fv ∧ Below w.heap.size w w'

theorem node1 (k : Int) (ls : List ByteArray) (m : Nat) (h : k = 1 ∨ k = 2) : nodeB k ls m = (decide (ls.length = 0) && decide (m = 0)) := by unfold nodeB; rw [if_pos h]
theorem node3 (k : Int) (ls : List ByteArray) (m : Nat) (h : k = 3 ∨ k = 4) : nodeB k ls m = (decide (m = ls.length) && labelsB ls) := by unfold nodeB; rw [if_neg (by omega), if_pos h]
theorem node5 (k : Int) (ls : List ByteArray) (m : Nat) (h : k = 5) : nodeB k ls m = (decide (ls.length = 0) && decide (m = 1)) := by unfold nodeB; rw [if_neg (by omega), if_neg (by omega), if_pos h]
theorem node0 (k : Int) (ls : List ByteArray) (m : Nat) (h : k ≠ 1 ∧ k ≠ 2 ∧ k ≠ 3 ∧ k ≠ 4 ∧ k ≠ 5) : nodeB k ls m = false := by unfold nodeB; rw [if_neg (by omega), if_neg (by omega), if_neg (by omega)]
theorem formV_nil {w : World} {L : Option Addr} {lc : Nat} {A : Option Addr} {ac : Nat} {k : Int} {ls : List ByteArray} {ts : List Ty} (h : nodeB k ls ts.length = false) : FormV w L lc A ac k ls ts .nilIface := .inl ⟨h, rfl⟩

end Go.Proofs.Ytmacbkcjeamaeaa

namespace Go.Proofs.Ytmacbkcjeamaeaa
set_option maxRecDepth 100000
open Go.RowKit

set_option maxHeartbeats 4000000 in
theorem formOf_1 (ls : List ByteArray) (ts : List Ty) (L A : Option Addr) (lc ac : Nat) (w : World) (hv : TyAt w w.heap.size (.agg #[.int .i64 1, .slice L ls.length lc, .slice A ts.length ac]) (.mk 1 ls ts)) (hnl : ls.length < maxLen) :
    Calls Try.prog 62 #[.agg #[.int .i64 1, .slice L ls.length lc, .slice A ts.length ac]] w (FormPost w L lc A ac 1 ls ts) := by
  obtain ⟨L', lc', A', ac', hv0, _, hz, hl, ha⟩ := hv.open
  simp only [Ty.kind, Ty.labels, Ty.args] at hv0 hz hl ha
  simp at hv0
  obtain ⟨⟨rfl, rfl⟩, rfl, rfl⟩ := hv0
  obtain ⟨hb0, p0, hs0⟩ := boxes1 w 27 #[.int .i64 1, .slice L ls.length lc, .slice A ts.length ac]
  have hl0 := hl.up' hb0
  have hm := ha.1
  unfold maxLen at hm
  have HL := Lib.hid (areLabels_any L lc ls (w.alloc (.cells #[.int .i64 1, .slice L ls.length lc, .slice A ts.length ac] 27)) hl0 hnl hz)
  have HA := Lib.hid ha
  clear hv hz hl hl0 ha hs0 hnl
  by_cases hp : ls.length = 0
  · have i0 : ((ls.length : Int) == 0) = true := by rw [beq_iff_eq]; omega
    have hlf : labelsB ls = false := by unfold labelsB; simp [hp]
    have HLF := Lib.hid hlf
    rw [hlf] at HL
    clear hlf
    by_cases hm1 : ts.length = 0
    · have i1 : ((ts.length : Int) == 0) = true := by rw [beq_iff_eq]; omega
      have HV : Hid (FormV w L lc A ac 1 ls ts (.iface 94 (.agg #[]))) := Lib.hid (.inr ⟨by rw [node1 _ _ _ (by omega)]; simp [hp, hm1], .inl ⟨rfl, List.length_eq_zero_iff.1 hm1, rfl⟩⟩)
      clear hp
      try clear hm1
      try clear hne
      try clear hq
      go_enter Try.func62, Try.ntmps62
      go_wp2_with fail
      generalize w.alloc (.cells #[.int .i64 1, .slice L ls.length lc, .slice A ts.length ac] 27) = w0 at *
      refine (HL.out).mono ?_
      rintro e w1 ⟨rfl, hb1⟩
      have p1 := p0.below hb1 p0.lt
      have c0 : w1.cell? ⟨w.heap.size, 0, none⟩ = some (.int .i64 1) := p1.cell 0
      have c1 : w1.cell? ⟨w.heap.size, 1, none⟩ = some (.slice L ls.length lc) := p1.cell 1
      have c2 : w1.cell? ⟨w.heap.size, 2, none⟩ = some (.slice A ts.length ac) := p1.cell 2
      go_wp2
      go_ret
      exact ⟨_, rfl, HV.out, hb0.trans (hb1.mono hb0.size)⟩
    · have i1 : ((ts.length : Int) == 0) = false := by rw [beq_eq_false_iff_ne]; omega
      have HV : Hid (FormV w L lc A ac 1 ls ts (.nilIface)) := Lib.hid (formV_nil (by rw [node1 _ _ _ (by omega)]; simp [hm1]))
      clear hp
      try clear hm1
      try clear hne
      try clear hq
      go_enter Try.func62, Try.ntmps62
      go_wp2_with fail
      generalize w.alloc (.cells #[.int .i64 1, .slice L ls.length lc, .slice A ts.length ac] 27) = w0 at *
      refine (HL.out).mono ?_
      rintro e w1 ⟨rfl, hb1⟩
      have p1 := p0.below hb1 p0.lt
      have c0 : w1.cell? ⟨w.heap.size, 0, none⟩ = some (.int .i64 1) := p1.cell 0
      have c1 : w1.cell? ⟨w.heap.size, 1, none⟩ = some (.slice L ls.length lc) := p1.cell 1
      have c2 : w1.cell? ⟨w.heap.size, 2, none⟩ = some (.slice A ts.length ac) := p1.cell 2
      go_wp2
      go_ret
      exact ⟨_, rfl, HV.out, hb0.trans (hb1.mono hb0.size)⟩
  · have i0 : ((ls.length : Int) == 0) = false := by rw [beq_eq_false_iff_ne]; omega
    cases hq : labelsB ls
    · rw [hq] at HL
      have HV : Hid (FormV w L lc A ac 1 ls ts (.nilIface)) := Lib.hid (formV_nil (by rw [node1 _ _ _ (by omega)]; simp [hp]))
      clear hp
      try clear hm1
      try clear hne
      try clear hq
      go_enter Try.func62, Try.ntmps62
      go_wp2_with fail
      generalize w.alloc (.cells #[.int .i64 1, .slice L ls.length lc, .slice A ts.length ac] 27) = w0 at *
      refine (HL.out).mono ?_
      rintro e w1 ⟨rfl, hb1⟩
      have p1 := p0.below hb1 p0.lt
      have c0 : w1.cell? ⟨w.heap.size, 0, none⟩ = some (.int .i64 1) := p1.cell 0
      have c1 : w1.cell? ⟨w.heap.size, 1, none⟩ = some (.slice L ls.length lc) := p1.cell 1
      have c2 : w1.cell? ⟨w.heap.size, 2, none⟩ = some (.slice A ts.length ac) := p1.cell 2
      go_wp2
      go_ret
      exact ⟨_, rfl, HV.out, hb0.trans (hb1.mono hb0.size)⟩
    · rw [hq] at HL
      by_cases hne : ts.length = ls.length
      · have i1 : ((ts.length : Int) == (ls.length : Int)) = true := by rw [beq_iff_eq]; omega
        have HV : Hid (FormV w L lc A ac 1 ls ts (.nilIface)) := Lib.hid (formV_nil (by rw [node1 _ _ _ (by omega)]; simp [hp]))
        clear hp
        try clear hm1
        try clear hne
        try clear hq
        go_enter Try.func62, Try.ntmps62
        go_wp2_with fail
        generalize w.alloc (.cells #[.int .i64 1, .slice L ls.length lc, .slice A ts.length ac] 27) = w0 at *
        refine (HL.out).mono ?_
        rintro e w1 ⟨rfl, hb1⟩
        have p1 := p0.below hb1 p0.lt
        have c0 : w1.cell? ⟨w.heap.size, 0, none⟩ = some (.int .i64 1) := p1.cell 0
        have c1 : w1.cell? ⟨w.heap.size, 1, none⟩ = some (.slice L ls.length lc) := p1.cell 1
        have c2 : w1.cell? ⟨w.heap.size, 2, none⟩ = some (.slice A ts.length ac) := p1.cell 2
        go_wp2
        go_ret
        exact ⟨_, rfl, HV.out, hb0.trans (hb1.mono hb0.size)⟩
      · have i1 : ((ts.length : Int) == (ls.length : Int)) = false := by rw [beq_eq_false_iff_ne]; omega
        have HV : Hid (FormV w L lc A ac 1 ls ts (.nilIface)) := Lib.hid (formV_nil (by rw [node1 _ _ _ (by omega)]; simp [hp]))
        clear hp
        try clear hm1
        try clear hne
        try clear hq
        go_enter Try.func62, Try.ntmps62
        go_wp2_with fail
        generalize w.alloc (.cells #[.int .i64 1, .slice L ls.length lc, .slice A ts.length ac] 27) = w0 at *
        refine (HL.out).mono ?_
        rintro e w1 ⟨rfl, hb1⟩
        have p1 := p0.below hb1 p0.lt
        have c0 : w1.cell? ⟨w.heap.size, 0, none⟩ = some (.int .i64 1) := p1.cell 0
        have c1 : w1.cell? ⟨w.heap.size, 1, none⟩ = some (.slice L ls.length lc) := p1.cell 1
        have c2 : w1.cell? ⟨w.heap.size, 2, none⟩ = some (.slice A ts.length ac) := p1.cell 2
        go_wp2
        go_ret
        exact ⟨_, rfl, HV.out, hb0.trans (hb1.mono hb0.size)⟩

set_option maxHeartbeats 4000000 in
theorem formOf_2 (ls : List ByteArray) (ts : List Ty) (L A : Option Addr) (lc ac : Nat) (w : World) (hv : TyAt w w.heap.size (.agg #[.int .i64 2, .slice L ls.length lc, .slice A ts.length ac]) (.mk 2 ls ts)) (hnl : ls.length < maxLen) :
    Calls Try.prog 62 #[.agg #[.int .i64 2, .slice L ls.length lc, .slice A ts.length ac]] w (FormPost w L lc A ac 2 ls ts) := by
  obtain ⟨L', lc', A', ac', hv0, _, hz, hl, ha⟩ := hv.open
  simp only [Ty.kind, Ty.labels, Ty.args] at hv0 hz hl ha
  simp at hv0
  obtain ⟨⟨rfl, rfl⟩, rfl, rfl⟩ := hv0
  obtain ⟨hb0, p0, hs0⟩ := boxes1 w 27 #[.int .i64 2, .slice L ls.length lc, .slice A ts.length ac]
  have hl0 := hl.up' hb0
  have hm := ha.1
  unfold maxLen at hm
  have HL := Lib.hid (areLabels_any L lc ls (w.alloc (.cells #[.int .i64 2, .slice L ls.length lc, .slice A ts.length ac] 27)) hl0 hnl hz)
  have HA := Lib.hid ha
  clear hv hz hl hl0 ha hs0 hnl
  by_cases hp : ls.length = 0
  · have i0 : ((ls.length : Int) == 0) = true := by rw [beq_iff_eq]; omega
    have hlf : labelsB ls = false := by unfold labelsB; simp [hp]
    have HLF := Lib.hid hlf
    rw [hlf] at HL
    clear hlf
    by_cases hm1 : ts.length = 0
    · have i1 : ((ts.length : Int) == 0) = true := by rw [beq_iff_eq]; omega
      have HV : Hid (FormV w L lc A ac 2 ls ts (.iface 95 (.agg #[]))) := Lib.hid (.inr ⟨by rw [node1 _ _ _ (by omega)]; simp [hp, hm1], .inr (.inl ⟨rfl, List.length_eq_zero_iff.1 hm1, rfl⟩)⟩)
      clear hp
      try clear hm1
      try clear hne
      try clear hq
      go_enter Try.func62, Try.ntmps62
      go_wp2_with fail
      generalize w.alloc (.cells #[.int .i64 2, .slice L ls.length lc, .slice A ts.length ac] 27) = w0 at *
      refine (HL.out).mono ?_
      rintro e w1 ⟨rfl, hb1⟩
      have p1 := p0.below hb1 p0.lt
      have c0 : w1.cell? ⟨w.heap.size, 0, none⟩ = some (.int .i64 2) := p1.cell 0
      have c1 : w1.cell? ⟨w.heap.size, 1, none⟩ = some (.slice L ls.length lc) := p1.cell 1
      have c2 : w1.cell? ⟨w.heap.size, 2, none⟩ = some (.slice A ts.length ac) := p1.cell 2
      go_wp2
      go_ret
      exact ⟨_, rfl, HV.out, hb0.trans (hb1.mono hb0.size)⟩
    · have i1 : ((ts.length : Int) == 0) = false := by rw [beq_eq_false_iff_ne]; omega
      have HV : Hid (FormV w L lc A ac 2 ls ts (.nilIface)) := Lib.hid (formV_nil (by rw [node1 _ _ _ (by omega)]; simp [hm1]))
      clear hp
      try clear hm1
      try clear hne
      try clear hq
      go_enter Try.func62, Try.ntmps62
      go_wp2_with fail
      generalize w.alloc (.cells #[.int .i64 2, .slice L ls.length lc, .slice A ts.length ac] 27) = w0 at *
      refine (HL.out).mono ?_
      rintro e w1 ⟨rfl, hb1⟩
      have p1 := p0.below hb1 p0.lt
      have c0 : w1.cell? ⟨w.heap.size, 0, none⟩ = some (.int .i64 2) := p1.cell 0
      have c1 : w1.cell? ⟨w.heap.size, 1, none⟩ = some (.slice L ls.length lc) := p1.cell 1
      have c2 : w1.cell? ⟨w.heap.size, 2, none⟩ = some (.slice A ts.length ac) := p1.cell 2
      go_wp2
      go_ret
      exact ⟨_, rfl, HV.out, hb0.trans (hb1.mono hb0.size)⟩
  · have i0 : ((ls.length : Int) == 0) = false := by rw [beq_eq_false_iff_ne]; omega
    cases hq : labelsB ls
    · rw [hq] at HL
      have HV : Hid (FormV w L lc A ac 2 ls ts (.nilIface)) := Lib.hid (formV_nil (by rw [node1 _ _ _ (by omega)]; simp [hp]))
      clear hp
      try clear hm1
      try clear hne
      try clear hq
      go_enter Try.func62, Try.ntmps62
      go_wp2_with fail
      generalize w.alloc (.cells #[.int .i64 2, .slice L ls.length lc, .slice A ts.length ac] 27) = w0 at *
      refine (HL.out).mono ?_
      rintro e w1 ⟨rfl, hb1⟩
      have p1 := p0.below hb1 p0.lt
      have c0 : w1.cell? ⟨w.heap.size, 0, none⟩ = some (.int .i64 2) := p1.cell 0
      have c1 : w1.cell? ⟨w.heap.size, 1, none⟩ = some (.slice L ls.length lc) := p1.cell 1
      have c2 : w1.cell? ⟨w.heap.size, 2, none⟩ = some (.slice A ts.length ac) := p1.cell 2
      go_wp2
      go_ret
      exact ⟨_, rfl, HV.out, hb0.trans (hb1.mono hb0.size)⟩
    · rw [hq] at HL
      by_cases hne : ts.length = ls.length
      · have i1 : ((ts.length : Int) == (ls.length : Int)) = true := by rw [beq_iff_eq]; omega
        have HV : Hid (FormV w L lc A ac 2 ls ts (.nilIface)) := Lib.hid (formV_nil (by rw [node1 _ _ _ (by omega)]; simp [hp]))
        clear hp
        try clear hm1
        try clear hne
        try clear hq
        go_enter Try.func62, Try.ntmps62
        go_wp2_with fail
        generalize w.alloc (.cells #[.int .i64 2, .slice L ls.length lc, .slice A ts.length ac] 27) = w0 at *
        refine (HL.out).mono ?_
        rintro e w1 ⟨rfl, hb1⟩
        have p1 := p0.below hb1 p0.lt
        have c0 : w1.cell? ⟨w.heap.size, 0, none⟩ = some (.int .i64 2) := p1.cell 0
        have c1 : w1.cell? ⟨w.heap.size, 1, none⟩ = some (.slice L ls.length lc) := p1.cell 1
        have c2 : w1.cell? ⟨w.heap.size, 2, none⟩ = some (.slice A ts.length ac) := p1.cell 2
        go_wp2
        go_ret
        exact ⟨_, rfl, HV.out, hb0.trans (hb1.mono hb0.size)⟩
      · have i1 : ((ts.length : Int) == (ls.length : Int)) = false := by rw [beq_eq_false_iff_ne]; omega
        have HV : Hid (FormV w L lc A ac 2 ls ts (.nilIface)) := Lib.hid (formV_nil (by rw [node1 _ _ _ (by omega)]; simp [hp]))
        clear hp
        try clear hm1
        try clear hne
        try clear hq
        go_enter Try.func62, Try.ntmps62
        go_wp2_with fail
        generalize w.alloc (.cells #[.int .i64 2, .slice L ls.length lc, .slice A ts.length ac] 27) = w0 at *
        refine (HL.out).mono ?_
        rintro e w1 ⟨rfl, hb1⟩
        have p1 := p0.below hb1 p0.lt
        have c0 : w1.cell? ⟨w.heap.size, 0, none⟩ = some (.int .i64 2) := p1.cell 0
        have c1 : w1.cell? ⟨w.heap.size, 1, none⟩ = some (.slice L ls.length lc) := p1.cell 1
        have c2 : w1.cell? ⟨w.heap.size, 2, none⟩ = some (.slice A ts.length ac) := p1.cell 2
        go_wp2
        go_ret
        exact ⟨_, rfl, HV.out, hb0.trans (hb1.mono hb0.size)⟩

set_option maxHeartbeats 4000000 in
theorem formOf_3 (ls : List ByteArray) (ts : List Ty) (L A : Option Addr) (lc ac : Nat) (w : World) (hv : TyAt w w.heap.size (.agg #[.int .i64 3, .slice L ls.length lc, .slice A ts.length ac]) (.mk 3 ls ts)) (hnl : ls.length < maxLen) :
    Calls Try.prog 62 #[.agg #[.int .i64 3, .slice L ls.length lc, .slice A ts.length ac]] w (FormPost w L lc A ac 3 ls ts) := by
  obtain ⟨L', lc', A', ac', hv0, _, hz, hl, ha⟩ := hv.open
  simp only [Ty.kind, Ty.labels, Ty.args] at hv0 hz hl ha
  simp at hv0
  obtain ⟨⟨rfl, rfl⟩, rfl, rfl⟩ := hv0
  obtain ⟨hb0, p0, hs0⟩ := boxes1 w 27 #[.int .i64 3, .slice L ls.length lc, .slice A ts.length ac]
  have hl0 := hl.up' hb0
  have hm := ha.1
  unfold maxLen at hm
  have HL := Lib.hid (areLabels_any L lc ls (w.alloc (.cells #[.int .i64 3, .slice L ls.length lc, .slice A ts.length ac] 27)) hl0 hnl hz)
  have HA := Lib.hid ha
  clear hv hz hl hl0 ha hs0 hnl
  by_cases hp : ls.length = 0
  · have i0 : ((ls.length : Int) == 0) = true := by rw [beq_iff_eq]; omega
    have hlf : labelsB ls = false := by unfold labelsB; simp [hp]
    have HLF := Lib.hid hlf
    rw [hlf] at HL
    clear hlf
    have HV : Hid (FormV w L lc A ac 3 ls ts (.nilIface)) := Lib.hid (formV_nil (by rw [node3 _ _ _ (by omega), HLF.out]; simp))
    clear hp
    try clear hm1
    try clear hne
    try clear hq
    go_enter Try.func62, Try.ntmps62
    go_wp2_with fail
    generalize w.alloc (.cells #[.int .i64 3, .slice L ls.length lc, .slice A ts.length ac] 27) = w0 at *
    refine (HL.out).mono ?_
    rintro e w1 ⟨rfl, hb1⟩
    have p1 := p0.below hb1 p0.lt
    have c0 : w1.cell? ⟨w.heap.size, 0, none⟩ = some (.int .i64 3) := p1.cell 0
    have c1 : w1.cell? ⟨w.heap.size, 1, none⟩ = some (.slice L ls.length lc) := p1.cell 1
    have c2 : w1.cell? ⟨w.heap.size, 2, none⟩ = some (.slice A ts.length ac) := p1.cell 2
    go_wp2
    go_ret
    exact ⟨_, rfl, HV.out, hb0.trans (hb1.mono hb0.size)⟩
  · have i0 : ((ls.length : Int) == 0) = false := by rw [beq_eq_false_iff_ne]; omega
    cases hq : labelsB ls
    · rw [hq] at HL
      have HV : Hid (FormV w L lc A ac 3 ls ts (.nilIface)) := Lib.hid (formV_nil (by rw [node3 _ _ _ (by omega), hq]; simp))
      clear hp
      try clear hm1
      try clear hne
      try clear hq
      go_enter Try.func62, Try.ntmps62
      go_wp2_with fail
      generalize w.alloc (.cells #[.int .i64 3, .slice L ls.length lc, .slice A ts.length ac] 27) = w0 at *
      refine (HL.out).mono ?_
      rintro e w1 ⟨rfl, hb1⟩
      have p1 := p0.below hb1 p0.lt
      have c0 : w1.cell? ⟨w.heap.size, 0, none⟩ = some (.int .i64 3) := p1.cell 0
      have c1 : w1.cell? ⟨w.heap.size, 1, none⟩ = some (.slice L ls.length lc) := p1.cell 1
      have c2 : w1.cell? ⟨w.heap.size, 2, none⟩ = some (.slice A ts.length ac) := p1.cell 2
      go_wp2
      go_ret
      exact ⟨_, rfl, HV.out, hb0.trans (hb1.mono hb0.size)⟩
    · rw [hq] at HL
      by_cases hne : ts.length = ls.length
      · have i1 : ((ts.length : Int) == (ls.length : Int)) = true := by rw [beq_iff_eq]; omega
        have HV : Hid (FormV w L lc A ac 3 ls ts (.iface 82 (.agg #[.slice L ls.length lc, .slice A ts.length ac]))) := Lib.hid (.inr ⟨by rw [node3 _ _ _ (by omega), hq]; simp [hne], .inr (.inr (.inl ⟨rfl, rfl⟩))⟩)
        clear hp
        try clear hm1
        try clear hne
        try clear hq
        go_enter Try.func62, Try.ntmps62
        go_wp2_with fail
        generalize w.alloc (.cells #[.int .i64 3, .slice L ls.length lc, .slice A ts.length ac] 27) = w0 at *
        refine (HL.out).mono ?_
        rintro e w1 ⟨rfl, hb1⟩
        have p1 := p0.below hb1 p0.lt
        have c0 : w1.cell? ⟨w.heap.size, 0, none⟩ = some (.int .i64 3) := p1.cell 0
        have c1 : w1.cell? ⟨w.heap.size, 1, none⟩ = some (.slice L ls.length lc) := p1.cell 1
        have c2 : w1.cell? ⟨w.heap.size, 2, none⟩ = some (.slice A ts.length ac) := p1.cell 2
        go_wp2
        go_ret
        exact ⟨_, rfl, HV.out, hb0.trans (hb1.mono hb0.size)⟩
      · have i1 : ((ts.length : Int) == (ls.length : Int)) = false := by rw [beq_eq_false_iff_ne]; omega
        have HV : Hid (FormV w L lc A ac 3 ls ts (.nilIface)) := Lib.hid (formV_nil (by rw [node3 _ _ _ (by omega)]; simp [hne]))
        clear hp
        try clear hm1
        try clear hne
        try clear hq
        go_enter Try.func62, Try.ntmps62
        go_wp2_with fail
        generalize w.alloc (.cells #[.int .i64 3, .slice L ls.length lc, .slice A ts.length ac] 27) = w0 at *
        refine (HL.out).mono ?_
        rintro e w1 ⟨rfl, hb1⟩
        have p1 := p0.below hb1 p0.lt
        have c0 : w1.cell? ⟨w.heap.size, 0, none⟩ = some (.int .i64 3) := p1.cell 0
        have c1 : w1.cell? ⟨w.heap.size, 1, none⟩ = some (.slice L ls.length lc) := p1.cell 1
        have c2 : w1.cell? ⟨w.heap.size, 2, none⟩ = some (.slice A ts.length ac) := p1.cell 2
        go_wp2
        go_ret
        exact ⟨_, rfl, HV.out, hb0.trans (hb1.mono hb0.size)⟩

set_option maxHeartbeats 4000000 in
theorem formOf_4 (ls : List ByteArray) (ts : List Ty) (L A : Option Addr) (lc ac : Nat) (w : World) (hv : TyAt w w.heap.size (.agg #[.int .i64 4, .slice L ls.length lc, .slice A ts.length ac]) (.mk 4 ls ts)) (hnl : ls.length < maxLen) :
    Calls Try.prog 62 #[.agg #[.int .i64 4, .slice L ls.length lc, .slice A ts.length ac]] w (FormPost w L lc A ac 4 ls ts) := by
  obtain ⟨L', lc', A', ac', hv0, _, hz, hl, ha⟩ := hv.open
  simp only [Ty.kind, Ty.labels, Ty.args] at hv0 hz hl ha
  simp at hv0
  obtain ⟨⟨rfl, rfl⟩, rfl, rfl⟩ := hv0
  obtain ⟨hb0, p0, hs0⟩ := boxes1 w 27 #[.int .i64 4, .slice L ls.length lc, .slice A ts.length ac]
  have hl0 := hl.up' hb0
  have hm := ha.1
  unfold maxLen at hm
  have HL := Lib.hid (areLabels_any L lc ls (w.alloc (.cells #[.int .i64 4, .slice L ls.length lc, .slice A ts.length ac] 27)) hl0 hnl hz)
  have HA := Lib.hid ha
  clear hv hz hl hl0 ha hs0 hnl
  by_cases hp : ls.length = 0
  · have i0 : ((ls.length : Int) == 0) = true := by rw [beq_iff_eq]; omega
    have hlf : labelsB ls = false := by unfold labelsB; simp [hp]
    have HLF := Lib.hid hlf
    rw [hlf] at HL
    clear hlf
    have HV : Hid (FormV w L lc A ac 4 ls ts (.nilIface)) := Lib.hid (formV_nil (by rw [node3 _ _ _ (by omega), HLF.out]; simp))
    clear hp
    try clear hm1
    try clear hne
    try clear hq
    go_enter Try.func62, Try.ntmps62
    go_wp2_with fail
    generalize w.alloc (.cells #[.int .i64 4, .slice L ls.length lc, .slice A ts.length ac] 27) = w0 at *
    refine (HL.out).mono ?_
    rintro e w1 ⟨rfl, hb1⟩
    have p1 := p0.below hb1 p0.lt
    have c0 : w1.cell? ⟨w.heap.size, 0, none⟩ = some (.int .i64 4) := p1.cell 0
    have c1 : w1.cell? ⟨w.heap.size, 1, none⟩ = some (.slice L ls.length lc) := p1.cell 1
    have c2 : w1.cell? ⟨w.heap.size, 2, none⟩ = some (.slice A ts.length ac) := p1.cell 2
    go_wp2
    go_ret
    exact ⟨_, rfl, HV.out, hb0.trans (hb1.mono hb0.size)⟩
  · have i0 : ((ls.length : Int) == 0) = false := by rw [beq_eq_false_iff_ne]; omega
    cases hq : labelsB ls
    · rw [hq] at HL
      have HV : Hid (FormV w L lc A ac 4 ls ts (.nilIface)) := Lib.hid (formV_nil (by rw [node3 _ _ _ (by omega), hq]; simp))
      clear hp
      try clear hm1
      try clear hne
      try clear hq
      go_enter Try.func62, Try.ntmps62
      go_wp2_with fail
      generalize w.alloc (.cells #[.int .i64 4, .slice L ls.length lc, .slice A ts.length ac] 27) = w0 at *
      refine (HL.out).mono ?_
      rintro e w1 ⟨rfl, hb1⟩
      have p1 := p0.below hb1 p0.lt
      have c0 : w1.cell? ⟨w.heap.size, 0, none⟩ = some (.int .i64 4) := p1.cell 0
      have c1 : w1.cell? ⟨w.heap.size, 1, none⟩ = some (.slice L ls.length lc) := p1.cell 1
      have c2 : w1.cell? ⟨w.heap.size, 2, none⟩ = some (.slice A ts.length ac) := p1.cell 2
      go_wp2
      go_ret
      exact ⟨_, rfl, HV.out, hb0.trans (hb1.mono hb0.size)⟩
    · rw [hq] at HL
      by_cases hne : ts.length = ls.length
      · have i1 : ((ts.length : Int) == (ls.length : Int)) = true := by rw [beq_iff_eq]; omega
        have HV : Hid (FormV w L lc A ac 4 ls ts (.iface 84 (.agg #[.slice L ls.length lc, .slice A ts.length ac]))) := Lib.hid (.inr ⟨by rw [node3 _ _ _ (by omega), hq]; simp [hne], .inr (.inr (.inr (.inl ⟨rfl, rfl⟩)))⟩)
        clear hp
        try clear hm1
        try clear hne
        try clear hq
        go_enter Try.func62, Try.ntmps62
        go_wp2_with fail
        generalize w.alloc (.cells #[.int .i64 4, .slice L ls.length lc, .slice A ts.length ac] 27) = w0 at *
        refine (HL.out).mono ?_
        rintro e w1 ⟨rfl, hb1⟩
        have p1 := p0.below hb1 p0.lt
        have c0 : w1.cell? ⟨w.heap.size, 0, none⟩ = some (.int .i64 4) := p1.cell 0
        have c1 : w1.cell? ⟨w.heap.size, 1, none⟩ = some (.slice L ls.length lc) := p1.cell 1
        have c2 : w1.cell? ⟨w.heap.size, 2, none⟩ = some (.slice A ts.length ac) := p1.cell 2
        go_wp2
        go_ret
        exact ⟨_, rfl, HV.out, hb0.trans (hb1.mono hb0.size)⟩
      · have i1 : ((ts.length : Int) == (ls.length : Int)) = false := by rw [beq_eq_false_iff_ne]; omega
        have HV : Hid (FormV w L lc A ac 4 ls ts (.nilIface)) := Lib.hid (formV_nil (by rw [node3 _ _ _ (by omega)]; simp [hne]))
        clear hp
        try clear hm1
        try clear hne
        try clear hq
        go_enter Try.func62, Try.ntmps62
        go_wp2_with fail
        generalize w.alloc (.cells #[.int .i64 4, .slice L ls.length lc, .slice A ts.length ac] 27) = w0 at *
        refine (HL.out).mono ?_
        rintro e w1 ⟨rfl, hb1⟩
        have p1 := p0.below hb1 p0.lt
        have c0 : w1.cell? ⟨w.heap.size, 0, none⟩ = some (.int .i64 4) := p1.cell 0
        have c1 : w1.cell? ⟨w.heap.size, 1, none⟩ = some (.slice L ls.length lc) := p1.cell 1
        have c2 : w1.cell? ⟨w.heap.size, 2, none⟩ = some (.slice A ts.length ac) := p1.cell 2
        go_wp2
        go_ret
        exact ⟨_, rfl, HV.out, hb0.trans (hb1.mono hb0.size)⟩

set_option maxHeartbeats 4000000 in
theorem formOf_5 (ls : List ByteArray) (ts : List Ty) (L A : Option Addr) (lc ac : Nat) (w : World) (hv : TyAt w w.heap.size (.agg #[.int .i64 5, .slice L ls.length lc, .slice A ts.length ac]) (.mk 5 ls ts)) (hnl : ls.length < maxLen) :
    Calls Try.prog 62 #[.agg #[.int .i64 5, .slice L ls.length lc, .slice A ts.length ac]] w (FormPost w L lc A ac 5 ls ts) := by
  obtain ⟨L', lc', A', ac', hv0, _, hz, hl, ha⟩ := hv.open
  simp only [Ty.kind, Ty.labels, Ty.args] at hv0 hz hl ha
  simp at hv0
  obtain ⟨⟨rfl, rfl⟩, rfl, rfl⟩ := hv0
  obtain ⟨hb0, p0, hs0⟩ := boxes1 w 27 #[.int .i64 5, .slice L ls.length lc, .slice A ts.length ac]
  have hl0 := hl.up' hb0
  have hm := ha.1
  unfold maxLen at hm
  have HL := Lib.hid (areLabels_any L lc ls (w.alloc (.cells #[.int .i64 5, .slice L ls.length lc, .slice A ts.length ac] 27)) hl0 hnl hz)
  have HA := Lib.hid ha
  clear hv hz hl hl0 ha hs0 hnl
  by_cases hp : ls.length = 0
  · have i0 : ((ls.length : Int) == 0) = true := by rw [beq_iff_eq]; omega
    have hlf : labelsB ls = false := by unfold labelsB; simp [hp]
    have HLF := Lib.hid hlf
    rw [hlf] at HL
    clear hlf
    by_cases hm1 : ts.length = 1
    · have i1 : ((ts.length : Int) == 1) = true := by rw [beq_iff_eq]; omega
      have i2 : (0 : Int) < (ts.length : Int) := by omega
      obtain ⟨b, off, L1, lc1, A1, ac1, rfl, hbw, q0', q1', q2', -, -, -, -, ht1⟩ := HA.out.elem 0 (by omega)
      have hts : ts = [ts[0]'(by omega)] := by
        match ts, hm1 with
        | [a], _ => rfl
      have hbl : b < (w.alloc (.cells #[.int .i64 5, .slice L ls.length lc, .slice (some ⟨b, off, none⟩) ts.length ac] 27)).heap.size := by simp; omega
      have q00 := (hb0.cell (p := ⟨b, off + 0 * 3, none⟩) hbw).trans q0'
      have q01 := (hb0.cell (p := ⟨b, off + 0 * 3 + 1, none⟩) hbw).trans q1'
      have q02 := (hb0.cell (p := ⟨b, off + 0 * 3 + 2, none⟩) hbw).trans q2'
      simp only [Nat.zero_mul, Nat.add_zero] at q00 q01 q02
      clear q0' q1' q2'
      obtain ⟨kk, hkk⟩ : ∃ kk : Int, kk = (ts[0]'(by omega)).kind := ⟨_, rfl⟩
      obtain ⟨n1, hn1⟩ : ∃ n1 : Nat, n1 = (ts[0]'(by omega)).labels.length := ⟨_, rfl⟩
      obtain ⟨n2, hn2⟩ : ∃ n2 : Nat, n2 = (ts[0]'(by omega)).args.length := ⟨_, rfl⟩
      rw [← hkk] at q00 ht1
      rw [← hn1] at q01 ht1
      rw [← hn2] at q02 ht1
      have HV : Hid (FormV w L lc (some ⟨b, off, none⟩) ac 5 ls ts (.iface 98 (.agg #[.int .i64 kk, .slice L1 n1 lc1, .slice A1 n2 ac1]))) := Lib.hid (.inr ⟨by rw [node5 _ _ _ rfl]; simp [hp, hm1], .inr (.inr (.inr (.inr ⟨rfl, _, _, _, _, hts, ht1, rfl⟩)))⟩)
      clear hp hts ht1 hm1 hkk hn1 hn2
      go_enter Try.func62, Try.ntmps62
      go_wp2_with fail
      generalize w.alloc (.cells #[.int .i64 5, .slice L ls.length lc, .slice (some ⟨b, off, none⟩) ts.length ac] 27) = w0 at *
      refine (HL.out).mono ?_
      rintro e w1 ⟨rfl, hb1⟩
      have p1 := p0.below hb1 p0.lt
      have c0 : w1.cell? ⟨w.heap.size, 0, none⟩ = some (.int .i64 5) := p1.cell 0
      have c1 : w1.cell? ⟨w.heap.size, 1, none⟩ = some (.slice L ls.length lc) := p1.cell 1
      have c2 : w1.cell? ⟨w.heap.size, 2, none⟩ = some (.slice (some ⟨b, off, none⟩) ts.length ac) := p1.cell 2
      have q0 := (hb1.cell (p := ⟨b, off, none⟩) hbl).trans q00
      have q1 := (hb1.cell (p := ⟨b, off + 1, none⟩) hbl).trans q01
      have q2 := (hb1.cell (p := ⟨b, off + 2, none⟩) hbl).trans q02
      clear q00 q01 q02
      go_wp2
      go_ret
      exact ⟨_, rfl, HV.out, hb0.trans (hb1.mono hb0.size)⟩
    · have i1 : ((ts.length : Int) == 1) = false := by rw [beq_eq_false_iff_ne]; omega
      have HV : Hid (FormV w L lc A ac 5 ls ts (.nilIface)) := Lib.hid (formV_nil (by rw [node5 _ _ _ rfl]; simp [hm1]))
      clear hp
      try clear hm1
      try clear hne
      try clear hq
      go_enter Try.func62, Try.ntmps62
      go_wp2_with fail
      generalize w.alloc (.cells #[.int .i64 5, .slice L ls.length lc, .slice A ts.length ac] 27) = w0 at *
      refine (HL.out).mono ?_
      rintro e w1 ⟨rfl, hb1⟩
      have p1 := p0.below hb1 p0.lt
      have c0 : w1.cell? ⟨w.heap.size, 0, none⟩ = some (.int .i64 5) := p1.cell 0
      have c1 : w1.cell? ⟨w.heap.size, 1, none⟩ = some (.slice L ls.length lc) := p1.cell 1
      have c2 : w1.cell? ⟨w.heap.size, 2, none⟩ = some (.slice A ts.length ac) := p1.cell 2
      go_wp2
      go_ret
      exact ⟨_, rfl, HV.out, hb0.trans (hb1.mono hb0.size)⟩
  · have i0 : ((ls.length : Int) == 0) = false := by rw [beq_eq_false_iff_ne]; omega
    cases hq : labelsB ls
    · rw [hq] at HL
      have HV : Hid (FormV w L lc A ac 5 ls ts (.nilIface)) := Lib.hid (formV_nil (by rw [node5 _ _ _ rfl]; simp [hp]))
      clear hp
      try clear hm1
      try clear hne
      try clear hq
      go_enter Try.func62, Try.ntmps62
      go_wp2_with fail
      generalize w.alloc (.cells #[.int .i64 5, .slice L ls.length lc, .slice A ts.length ac] 27) = w0 at *
      refine (HL.out).mono ?_
      rintro e w1 ⟨rfl, hb1⟩
      have p1 := p0.below hb1 p0.lt
      have c0 : w1.cell? ⟨w.heap.size, 0, none⟩ = some (.int .i64 5) := p1.cell 0
      have c1 : w1.cell? ⟨w.heap.size, 1, none⟩ = some (.slice L ls.length lc) := p1.cell 1
      have c2 : w1.cell? ⟨w.heap.size, 2, none⟩ = some (.slice A ts.length ac) := p1.cell 2
      go_wp2
      go_ret
      exact ⟨_, rfl, HV.out, hb0.trans (hb1.mono hb0.size)⟩
    · rw [hq] at HL
      by_cases hne : ts.length = ls.length
      · have i1 : ((ts.length : Int) == (ls.length : Int)) = true := by rw [beq_iff_eq]; omega
        have HV : Hid (FormV w L lc A ac 5 ls ts (.nilIface)) := Lib.hid (formV_nil (by rw [node5 _ _ _ rfl]; simp [hp]))
        clear hp
        try clear hm1
        try clear hne
        try clear hq
        go_enter Try.func62, Try.ntmps62
        go_wp2_with fail
        generalize w.alloc (.cells #[.int .i64 5, .slice L ls.length lc, .slice A ts.length ac] 27) = w0 at *
        refine (HL.out).mono ?_
        rintro e w1 ⟨rfl, hb1⟩
        have p1 := p0.below hb1 p0.lt
        have c0 : w1.cell? ⟨w.heap.size, 0, none⟩ = some (.int .i64 5) := p1.cell 0
        have c1 : w1.cell? ⟨w.heap.size, 1, none⟩ = some (.slice L ls.length lc) := p1.cell 1
        have c2 : w1.cell? ⟨w.heap.size, 2, none⟩ = some (.slice A ts.length ac) := p1.cell 2
        go_wp2
        go_ret
        exact ⟨_, rfl, HV.out, hb0.trans (hb1.mono hb0.size)⟩
      · have i1 : ((ts.length : Int) == (ls.length : Int)) = false := by rw [beq_eq_false_iff_ne]; omega
        have HV : Hid (FormV w L lc A ac 5 ls ts (.nilIface)) := Lib.hid (formV_nil (by rw [node5 _ _ _ rfl]; simp [hp]))
        clear hp
        try clear hm1
        try clear hne
        try clear hq
        go_enter Try.func62, Try.ntmps62
        go_wp2_with fail
        generalize w.alloc (.cells #[.int .i64 5, .slice L ls.length lc, .slice A ts.length ac] 27) = w0 at *
        refine (HL.out).mono ?_
        rintro e w1 ⟨rfl, hb1⟩
        have p1 := p0.below hb1 p0.lt
        have c0 : w1.cell? ⟨w.heap.size, 0, none⟩ = some (.int .i64 5) := p1.cell 0
        have c1 : w1.cell? ⟨w.heap.size, 1, none⟩ = some (.slice L ls.length lc) := p1.cell 1
        have c2 : w1.cell? ⟨w.heap.size, 2, none⟩ = some (.slice A ts.length ac) := p1.cell 2
        go_wp2
        go_ret
        exact ⟨_, rfl, HV.out, hb0.trans (hb1.mono hb0.size)⟩

set_option maxHeartbeats 4000000 in
theorem formOf_0 (k0 : Int) (ls : List ByteArray) (ts : List Ty) (L A : Option Addr) (lc ac : Nat) (w : World) (hv : TyAt w w.heap.size (.agg #[.int .i64 k0, .slice L ls.length lc, .slice A ts.length ac]) (.mk k0 ls ts)) (hnl : ls.length < maxLen) (hk : k0 ≠ 1 ∧ k0 ≠ 2 ∧ k0 ≠ 3 ∧ k0 ≠ 4 ∧ k0 ≠ 5) :
    Calls Try.prog 62 #[.agg #[.int .i64 k0, .slice L ls.length lc, .slice A ts.length ac]] w (FormPost w L lc A ac k0 ls ts) := by
  obtain ⟨L', lc', A', ac', hv0, _, hz, hl, ha⟩ := hv.open
  simp only [Ty.kind, Ty.labels, Ty.args] at hv0 hz hl ha
  simp at hv0
  obtain ⟨⟨rfl, rfl⟩, rfl, rfl⟩ := hv0
  obtain ⟨hb0, p0, hs0⟩ := boxes1 w 27 #[.int .i64 k0, .slice L ls.length lc, .slice A ts.length ac]
  have hl0 := hl.up' hb0
  have hm := ha.1
  unfold maxLen at hm
  have HL := Lib.hid (areLabels_any L lc ls (w.alloc (.cells #[.int .i64 k0, .slice L ls.length lc, .slice A ts.length ac] 27)) hl0 hnl hz)
  have HA := Lib.hid ha
  clear hv hz hl hl0 ha hs0 hnl
  have j1 : (k0 == 1) = false := by rw [beq_eq_false_iff_ne]; omega
  have j2 : (k0 == 2) = false := by rw [beq_eq_false_iff_ne]; omega
  have j3 : (k0 == 3) = false := by rw [beq_eq_false_iff_ne]; omega
  have j4 : (k0 == 4) = false := by rw [beq_eq_false_iff_ne]; omega
  have j5 : (k0 == 5) = false := by rw [beq_eq_false_iff_ne]; omega
  have hnode := Lib.hid (node0 k0 ls ts.length hk)
  clear hk
  by_cases hp : ls.length = 0
  · have i0 : ((ls.length : Int) == 0) = true := by rw [beq_iff_eq]; omega
    have hlf : labelsB ls = false := by unfold labelsB; simp [hp]
    have HLF := Lib.hid hlf
    rw [hlf] at HL
    clear hlf
    have HV : Hid (FormV w L lc A ac k0 ls ts (.nilIface)) := Lib.hid (formV_nil (by exact hnode.out))
    clear hp
    try clear hm1
    try clear hne
    try clear hq
    go_enter Try.func62, Try.ntmps62
    go_wp2_with fail
    generalize w.alloc (.cells #[.int .i64 k0, .slice L ls.length lc, .slice A ts.length ac] 27) = w0 at *
    refine (HL.out).mono ?_
    rintro e w1 ⟨rfl, hb1⟩
    have p1 := p0.below hb1 p0.lt
    have c0 : w1.cell? ⟨w.heap.size, 0, none⟩ = some (.int .i64 k0) := p1.cell 0
    have c1 : w1.cell? ⟨w.heap.size, 1, none⟩ = some (.slice L ls.length lc) := p1.cell 1
    have c2 : w1.cell? ⟨w.heap.size, 2, none⟩ = some (.slice A ts.length ac) := p1.cell 2
    go_wp2
    go_ret
    exact ⟨_, rfl, HV.out, hb0.trans (hb1.mono hb0.size)⟩
  · have i0 : ((ls.length : Int) == 0) = false := by rw [beq_eq_false_iff_ne]; omega
    cases hq : labelsB ls
    · rw [hq] at HL
      have HV : Hid (FormV w L lc A ac k0 ls ts (.nilIface)) := Lib.hid (formV_nil (by exact hnode.out))
      clear hp
      try clear hm1
      try clear hne
      try clear hq
      go_enter Try.func62, Try.ntmps62
      go_wp2_with fail
      generalize w.alloc (.cells #[.int .i64 k0, .slice L ls.length lc, .slice A ts.length ac] 27) = w0 at *
      refine (HL.out).mono ?_
      rintro e w1 ⟨rfl, hb1⟩
      have p1 := p0.below hb1 p0.lt
      have c0 : w1.cell? ⟨w.heap.size, 0, none⟩ = some (.int .i64 k0) := p1.cell 0
      have c1 : w1.cell? ⟨w.heap.size, 1, none⟩ = some (.slice L ls.length lc) := p1.cell 1
      have c2 : w1.cell? ⟨w.heap.size, 2, none⟩ = some (.slice A ts.length ac) := p1.cell 2
      go_wp2
      go_ret
      exact ⟨_, rfl, HV.out, hb0.trans (hb1.mono hb0.size)⟩
    · rw [hq] at HL
      by_cases hne : ts.length = ls.length
      · have i1 : ((ts.length : Int) == (ls.length : Int)) = true := by rw [beq_iff_eq]; omega
        have HV : Hid (FormV w L lc A ac k0 ls ts (.nilIface)) := Lib.hid (formV_nil (by exact hnode.out))
        clear hp
        try clear hm1
        try clear hne
        try clear hq
        go_enter Try.func62, Try.ntmps62
        go_wp2_with fail
        generalize w.alloc (.cells #[.int .i64 k0, .slice L ls.length lc, .slice A ts.length ac] 27) = w0 at *
        refine (HL.out).mono ?_
        rintro e w1 ⟨rfl, hb1⟩
        have p1 := p0.below hb1 p0.lt
        have c0 : w1.cell? ⟨w.heap.size, 0, none⟩ = some (.int .i64 k0) := p1.cell 0
        have c1 : w1.cell? ⟨w.heap.size, 1, none⟩ = some (.slice L ls.length lc) := p1.cell 1
        have c2 : w1.cell? ⟨w.heap.size, 2, none⟩ = some (.slice A ts.length ac) := p1.cell 2
        go_wp2
        go_ret
        exact ⟨_, rfl, HV.out, hb0.trans (hb1.mono hb0.size)⟩
      · have i1 : ((ts.length : Int) == (ls.length : Int)) = false := by rw [beq_eq_false_iff_ne]; omega
        have HV : Hid (FormV w L lc A ac k0 ls ts (.nilIface)) := Lib.hid (formV_nil (by exact hnode.out))
        clear hp
        try clear hm1
        try clear hne
        try clear hq
        go_enter Try.func62, Try.ntmps62
        go_wp2_with fail
        generalize w.alloc (.cells #[.int .i64 k0, .slice L ls.length lc, .slice A ts.length ac] 27) = w0 at *
        refine (HL.out).mono ?_
        rintro e w1 ⟨rfl, hb1⟩
        have p1 := p0.below hb1 p0.lt
        have c0 : w1.cell? ⟨w.heap.size, 0, none⟩ = some (.int .i64 k0) := p1.cell 0
        have c1 : w1.cell? ⟨w.heap.size, 1, none⟩ = some (.slice L ls.length lc) := p1.cell 1
        have c2 : w1.cell? ⟨w.heap.size, 2, none⟩ = some (.slice A ts.length ac) := p1.cell 2
        go_wp2
        go_ret
        exact ⟨_, rfl, HV.out, hb0.trans (hb1.mono hb0.size)⟩

theorem formOf_any (k0 : Int) (ls : List ByteArray) (ts : List Ty) (L A : Option Addr) (lc ac : Nat) (w : World) (hv : TyAt w w.heap.size (.agg #[.int .i64 k0, .slice L ls.length lc, .slice A ts.length ac]) (.mk k0 ls ts)) (hnl : ls.length < maxLen) :
    Calls Try.prog 62 #[.agg #[.int .i64 k0, .slice L ls.length lc, .slice A ts.length ac]] w (FormPost w L lc A ac k0 ls ts) := by
  by_cases h1 : k0 = 1
  · subst h1; exact formOf_1 ls ts L A lc ac w hv hnl
  by_cases h2 : k0 = 2
  · subst h2; exact formOf_2 ls ts L A lc ac w hv hnl
  by_cases h3 : k0 = 3
  · subst h3; exact formOf_3 ls ts L A lc ac w hv hnl
  by_cases h4 : k0 = 4
  · subst h4; exact formOf_4 ls ts L A lc ac w hv hnl
  by_cases h5 : k0 = 5
  · subst h5; exact formOf_5 ls ts L A lc ac w hv hnl
  exact formOf_0 k0 ls ts L A lc ac w hv hnl ⟨h1, h2, h3, h4, h5⟩

end Go.Proofs.Ytmacbkcjeamaeaa
