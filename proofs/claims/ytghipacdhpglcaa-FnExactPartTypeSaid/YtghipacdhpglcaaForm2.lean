/- impl.formOf. -/
import Derived.Test.YtghipacdhpglcaaForm
namespace Go.Proofs.Ytghipacdhpglcaa
set_option maxRecDepth 100000
open Go.RowKit

set_option maxHeartbeats 4000000 in
theorem formOf_1 (ls : List ByteArray) (ts : List Ty) (L A : Option Addr) (lc ac : Nat) (w : World) (hv : TyAt w w.heap.size (.agg #[.int .i64 1, .slice L ls.length lc, .slice A ts.length ac]) (.mk 1 ls ts)) (hnl : ls.length < maxLen) :
    Calls Try.prog 74 #[.agg #[.int .i64 1, .slice L ls.length lc, .slice A ts.length ac]] w (FormPost w L lc A ac 1 ls ts) := by
  obtain ⟨L', lc', A', ac', hv0, _, hz, hl, ha⟩ := hv.open
  simp only [Ty.kind, Ty.labels, Ty.args] at hv0 hz hl ha
  simp at hv0
  obtain ⟨⟨rfl, rfl⟩, rfl, rfl⟩ := hv0
  obtain ⟨hb0, p0, hs0⟩ := boxes1 w 36 #[.int .i64 1, .slice L ls.length lc, .slice A ts.length ac]
  have hl0 := hl.up' hb0
  have hm := ha.1
  unfold maxLen at hm
  have HL := Lib.hid (areLabels_any L lc ls (w.alloc (.cells #[.int .i64 1, .slice L ls.length lc, .slice A ts.length ac] 36)) hl0 hnl hz)
  have HA := Lib.hid ha
  clear hv hz hl hl0 ha hs0 hnl
  by_cases hp : ls.length = 0
  · have i0 : ((ls.length : Int) == 0) = true := by rw [beq_iff_eq]; omega
    have hlf : labelsB ls = false := by unfold labelsB; simp [hp]
    have HLF := Lib.hid hlf
    rw [hlf] at HL
    clear hlf
    by_cases hm1 : ts.length = 0
    · have i1 : ((ts.length : Int) == 0) = true := by rw [beq_iff_eq]; omega
      have HV : Hid (FormV w L lc A ac 1 ls ts (.iface 111 (.agg #[]))) := Lib.hid (.inr ⟨by rw [node1 _ _ _ (by omega)]; simp [hp, hm1], .inl ⟨rfl, List.length_eq_zero_iff.1 hm1, rfl⟩⟩)
      clear hp
      try clear hm1
      try clear hne
      try clear hq
      go_enter Try.func74, Try.ntmps74
      go_wp2_with fail
      generalize w.alloc (.cells #[.int .i64 1, .slice L ls.length lc, .slice A ts.length ac] 36) = w0 at *
      refine (HL.out).mono ?_
      rintro e w1 ⟨rfl, hb1⟩
      have p1 := p0.below hb1 p0.lt
      have c0 : w1.cell? ⟨w.heap.size, 0, none⟩ = some (.int .i64 1) := p1.cell 0
      have c1 : w1.cell? ⟨w.heap.size, 1, none⟩ = some (.slice L ls.length lc) := p1.cell 1
      have c2 : w1.cell? ⟨w.heap.size, 2, none⟩ = some (.slice A ts.length ac) := p1.cell 2
      go_wp2
      go_ret
      exact ⟨_, rfl, HV.out, hb0.trans (hb1.mono hb0.size)⟩
    · have i1 : ((ts.length : Int) == 0) = false := by rw [beq_eq_false_iff_ne]; omega
      have HV : Hid (FormV w L lc A ac 1 ls ts (.nilIface)) := Lib.hid (formV_nil (by rw [node1 _ _ _ (by omega)]; simp [hm1]))
      clear hp
      try clear hm1
      try clear hne
      try clear hq
      go_enter Try.func74, Try.ntmps74
      go_wp2_with fail
      generalize w.alloc (.cells #[.int .i64 1, .slice L ls.length lc, .slice A ts.length ac] 36) = w0 at *
      refine (HL.out).mono ?_
      rintro e w1 ⟨rfl, hb1⟩
      have p1 := p0.below hb1 p0.lt
      have c0 : w1.cell? ⟨w.heap.size, 0, none⟩ = some (.int .i64 1) := p1.cell 0
      have c1 : w1.cell? ⟨w.heap.size, 1, none⟩ = some (.slice L ls.length lc) := p1.cell 1
      have c2 : w1.cell? ⟨w.heap.size, 2, none⟩ = some (.slice A ts.length ac) := p1.cell 2
      go_wp2
      go_ret
      exact ⟨_, rfl, HV.out, hb0.trans (hb1.mono hb0.size)⟩
  · have i0 : ((ls.length : Int) == 0) = false := by rw [beq_eq_false_iff_ne]; omega
    cases hq : labelsB ls
    · rw [hq] at HL
      have HV : Hid (FormV w L lc A ac 1 ls ts (.nilIface)) := Lib.hid (formV_nil (by rw [node1 _ _ _ (by omega)]; simp [hp]))
      clear hp
      try clear hm1
      try clear hne
      try clear hq
      go_enter Try.func74, Try.ntmps74
      go_wp2_with fail
      generalize w.alloc (.cells #[.int .i64 1, .slice L ls.length lc, .slice A ts.length ac] 36) = w0 at *
      refine (HL.out).mono ?_
      rintro e w1 ⟨rfl, hb1⟩
      have p1 := p0.below hb1 p0.lt
      have c0 : w1.cell? ⟨w.heap.size, 0, none⟩ = some (.int .i64 1) := p1.cell 0
      have c1 : w1.cell? ⟨w.heap.size, 1, none⟩ = some (.slice L ls.length lc) := p1.cell 1
      have c2 : w1.cell? ⟨w.heap.size, 2, none⟩ = some (.slice A ts.length ac) := p1.cell 2
      go_wp2
      go_ret
      exact ⟨_, rfl, HV.out, hb0.trans (hb1.mono hb0.size)⟩
    · rw [hq] at HL
      by_cases hne : ts.length = ls.length
      · have i1 : ((ts.length : Int) == (ls.length : Int)) = true := by rw [beq_iff_eq]; omega
        have HV : Hid (FormV w L lc A ac 1 ls ts (.nilIface)) := Lib.hid (formV_nil (by rw [node1 _ _ _ (by omega)]; simp [hp]))
        clear hp
        try clear hm1
        try clear hne
        try clear hq
        go_enter Try.func74, Try.ntmps74
        go_wp2_with fail
        generalize w.alloc (.cells #[.int .i64 1, .slice L ls.length lc, .slice A ts.length ac] 36) = w0 at *
        refine (HL.out).mono ?_
        rintro e w1 ⟨rfl, hb1⟩
        have p1 := p0.below hb1 p0.lt
        have c0 : w1.cell? ⟨w.heap.size, 0, none⟩ = some (.int .i64 1) := p1.cell 0
        have c1 : w1.cell? ⟨w.heap.size, 1, none⟩ = some (.slice L ls.length lc) := p1.cell 1
        have c2 : w1.cell? ⟨w.heap.size, 2, none⟩ = some (.slice A ts.length ac) := p1.cell 2
        go_wp2
        go_ret
        exact ⟨_, rfl, HV.out, hb0.trans (hb1.mono hb0.size)⟩
      · have i1 : ((ts.length : Int) == (ls.length : Int)) = false := by rw [beq_eq_false_iff_ne]; omega
        have HV : Hid (FormV w L lc A ac 1 ls ts (.nilIface)) := Lib.hid (formV_nil (by rw [node1 _ _ _ (by omega)]; simp [hp]))
        clear hp
        try clear hm1
        try clear hne
        try clear hq
        go_enter Try.func74, Try.ntmps74
        go_wp2_with fail
        generalize w.alloc (.cells #[.int .i64 1, .slice L ls.length lc, .slice A ts.length ac] 36) = w0 at *
        refine (HL.out).mono ?_
        rintro e w1 ⟨rfl, hb1⟩
        have p1 := p0.below hb1 p0.lt
        have c0 : w1.cell? ⟨w.heap.size, 0, none⟩ = some (.int .i64 1) := p1.cell 0
        have c1 : w1.cell? ⟨w.heap.size, 1, none⟩ = some (.slice L ls.length lc) := p1.cell 1
        have c2 : w1.cell? ⟨w.heap.size, 2, none⟩ = some (.slice A ts.length ac) := p1.cell 2
        go_wp2
        go_ret
        exact ⟨_, rfl, HV.out, hb0.trans (hb1.mono hb0.size)⟩

set_option maxHeartbeats 4000000 in
theorem formOf_2 (ls : List ByteArray) (ts : List Ty) (L A : Option Addr) (lc ac : Nat) (w : World) (hv : TyAt w w.heap.size (.agg #[.int .i64 2, .slice L ls.length lc, .slice A ts.length ac]) (.mk 2 ls ts)) (hnl : ls.length < maxLen) :
    Calls Try.prog 74 #[.agg #[.int .i64 2, .slice L ls.length lc, .slice A ts.length ac]] w (FormPost w L lc A ac 2 ls ts) := by
  obtain ⟨L', lc', A', ac', hv0, _, hz, hl, ha⟩ := hv.open
  simp only [Ty.kind, Ty.labels, Ty.args] at hv0 hz hl ha
  simp at hv0
  obtain ⟨⟨rfl, rfl⟩, rfl, rfl⟩ := hv0
  obtain ⟨hb0, p0, hs0⟩ := boxes1 w 36 #[.int .i64 2, .slice L ls.length lc, .slice A ts.length ac]
  have hl0 := hl.up' hb0
  have hm := ha.1
  unfold maxLen at hm
  have HL := Lib.hid (areLabels_any L lc ls (w.alloc (.cells #[.int .i64 2, .slice L ls.length lc, .slice A ts.length ac] 36)) hl0 hnl hz)
  have HA := Lib.hid ha
  clear hv hz hl hl0 ha hs0 hnl
  by_cases hp : ls.length = 0
  · have i0 : ((ls.length : Int) == 0) = true := by rw [beq_iff_eq]; omega
    have hlf : labelsB ls = false := by unfold labelsB; simp [hp]
    have HLF := Lib.hid hlf
    rw [hlf] at HL
    clear hlf
    by_cases hm1 : ts.length = 0
    · have i1 : ((ts.length : Int) == 0) = true := by rw [beq_iff_eq]; omega
      have HV : Hid (FormV w L lc A ac 2 ls ts (.iface 112 (.agg #[]))) := Lib.hid (.inr ⟨by rw [node1 _ _ _ (by omega)]; simp [hp, hm1], .inr (.inl ⟨rfl, List.length_eq_zero_iff.1 hm1, rfl⟩)⟩)
      clear hp
      try clear hm1
      try clear hne
      try clear hq
      go_enter Try.func74, Try.ntmps74
      go_wp2_with fail
      generalize w.alloc (.cells #[.int .i64 2, .slice L ls.length lc, .slice A ts.length ac] 36) = w0 at *
      refine (HL.out).mono ?_
      rintro e w1 ⟨rfl, hb1⟩
      have p1 := p0.below hb1 p0.lt
      have c0 : w1.cell? ⟨w.heap.size, 0, none⟩ = some (.int .i64 2) := p1.cell 0
      have c1 : w1.cell? ⟨w.heap.size, 1, none⟩ = some (.slice L ls.length lc) := p1.cell 1
      have c2 : w1.cell? ⟨w.heap.size, 2, none⟩ = some (.slice A ts.length ac) := p1.cell 2
      go_wp2
      go_ret
      exact ⟨_, rfl, HV.out, hb0.trans (hb1.mono hb0.size)⟩
    · have i1 : ((ts.length : Int) == 0) = false := by rw [beq_eq_false_iff_ne]; omega
      have HV : Hid (FormV w L lc A ac 2 ls ts (.nilIface)) := Lib.hid (formV_nil (by rw [node1 _ _ _ (by omega)]; simp [hm1]))
      clear hp
      try clear hm1
      try clear hne
      try clear hq
      go_enter Try.func74, Try.ntmps74
      go_wp2_with fail
      generalize w.alloc (.cells #[.int .i64 2, .slice L ls.length lc, .slice A ts.length ac] 36) = w0 at *
      refine (HL.out).mono ?_
      rintro e w1 ⟨rfl, hb1⟩
      have p1 := p0.below hb1 p0.lt
      have c0 : w1.cell? ⟨w.heap.size, 0, none⟩ = some (.int .i64 2) := p1.cell 0
      have c1 : w1.cell? ⟨w.heap.size, 1, none⟩ = some (.slice L ls.length lc) := p1.cell 1
      have c2 : w1.cell? ⟨w.heap.size, 2, none⟩ = some (.slice A ts.length ac) := p1.cell 2
      go_wp2
      go_ret
      exact ⟨_, rfl, HV.out, hb0.trans (hb1.mono hb0.size)⟩
  · have i0 : ((ls.length : Int) == 0) = false := by rw [beq_eq_false_iff_ne]; omega
    cases hq : labelsB ls
    · rw [hq] at HL
      have HV : Hid (FormV w L lc A ac 2 ls ts (.nilIface)) := Lib.hid (formV_nil (by rw [node1 _ _ _ (by omega)]; simp [hp]))
      clear hp
      try clear hm1
      try clear hne
      try clear hq
      go_enter Try.func74, Try.ntmps74
      go_wp2_with fail
      generalize w.alloc (.cells #[.int .i64 2, .slice L ls.length lc, .slice A ts.length ac] 36) = w0 at *
      refine (HL.out).mono ?_
      rintro e w1 ⟨rfl, hb1⟩
      have p1 := p0.below hb1 p0.lt
      have c0 : w1.cell? ⟨w.heap.size, 0, none⟩ = some (.int .i64 2) := p1.cell 0
      have c1 : w1.cell? ⟨w.heap.size, 1, none⟩ = some (.slice L ls.length lc) := p1.cell 1
      have c2 : w1.cell? ⟨w.heap.size, 2, none⟩ = some (.slice A ts.length ac) := p1.cell 2
      go_wp2
      go_ret
      exact ⟨_, rfl, HV.out, hb0.trans (hb1.mono hb0.size)⟩
    · rw [hq] at HL
      by_cases hne : ts.length = ls.length
      · have i1 : ((ts.length : Int) == (ls.length : Int)) = true := by rw [beq_iff_eq]; omega
        have HV : Hid (FormV w L lc A ac 2 ls ts (.nilIface)) := Lib.hid (formV_nil (by rw [node1 _ _ _ (by omega)]; simp [hp]))
        clear hp
        try clear hm1
        try clear hne
        try clear hq
        go_enter Try.func74, Try.ntmps74
        go_wp2_with fail
        generalize w.alloc (.cells #[.int .i64 2, .slice L ls.length lc, .slice A ts.length ac] 36) = w0 at *
        refine (HL.out).mono ?_
        rintro e w1 ⟨rfl, hb1⟩
        have p1 := p0.below hb1 p0.lt
        have c0 : w1.cell? ⟨w.heap.size, 0, none⟩ = some (.int .i64 2) := p1.cell 0
        have c1 : w1.cell? ⟨w.heap.size, 1, none⟩ = some (.slice L ls.length lc) := p1.cell 1
        have c2 : w1.cell? ⟨w.heap.size, 2, none⟩ = some (.slice A ts.length ac) := p1.cell 2
        go_wp2
        go_ret
        exact ⟨_, rfl, HV.out, hb0.trans (hb1.mono hb0.size)⟩
      · have i1 : ((ts.length : Int) == (ls.length : Int)) = false := by rw [beq_eq_false_iff_ne]; omega
        have HV : Hid (FormV w L lc A ac 2 ls ts (.nilIface)) := Lib.hid (formV_nil (by rw [node1 _ _ _ (by omega)]; simp [hp]))
        clear hp
        try clear hm1
        try clear hne
        try clear hq
        go_enter Try.func74, Try.ntmps74
        go_wp2_with fail
        generalize w.alloc (.cells #[.int .i64 2, .slice L ls.length lc, .slice A ts.length ac] 36) = w0 at *
        refine (HL.out).mono ?_
        rintro e w1 ⟨rfl, hb1⟩
        have p1 := p0.below hb1 p0.lt
        have c0 : w1.cell? ⟨w.heap.size, 0, none⟩ = some (.int .i64 2) := p1.cell 0
        have c1 : w1.cell? ⟨w.heap.size, 1, none⟩ = some (.slice L ls.length lc) := p1.cell 1
        have c2 : w1.cell? ⟨w.heap.size, 2, none⟩ = some (.slice A ts.length ac) := p1.cell 2
        go_wp2
        go_ret
        exact ⟨_, rfl, HV.out, hb0.trans (hb1.mono hb0.size)⟩

set_option maxHeartbeats 4000000 in
theorem formOf_3 (ls : List ByteArray) (ts : List Ty) (L A : Option Addr) (lc ac : Nat) (w : World) (hv : TyAt w w.heap.size (.agg #[.int .i64 3, .slice L ls.length lc, .slice A ts.length ac]) (.mk 3 ls ts)) (hnl : ls.length < maxLen) :
    Calls Try.prog 74 #[.agg #[.int .i64 3, .slice L ls.length lc, .slice A ts.length ac]] w (FormPost w L lc A ac 3 ls ts) := by
  obtain ⟨L', lc', A', ac', hv0, _, hz, hl, ha⟩ := hv.open
  simp only [Ty.kind, Ty.labels, Ty.args] at hv0 hz hl ha
  simp at hv0
  obtain ⟨⟨rfl, rfl⟩, rfl, rfl⟩ := hv0
  obtain ⟨hb0, p0, hs0⟩ := boxes1 w 36 #[.int .i64 3, .slice L ls.length lc, .slice A ts.length ac]
  have hl0 := hl.up' hb0
  have hm := ha.1
  unfold maxLen at hm
  have HL := Lib.hid (areLabels_any L lc ls (w.alloc (.cells #[.int .i64 3, .slice L ls.length lc, .slice A ts.length ac] 36)) hl0 hnl hz)
  have HA := Lib.hid ha
  clear hv hz hl hl0 ha hs0 hnl
  by_cases hp : ls.length = 0
  · have i0 : ((ls.length : Int) == 0) = true := by rw [beq_iff_eq]; omega
    have hlf : labelsB ls = false := by unfold labelsB; simp [hp]
    have HLF := Lib.hid hlf
    rw [hlf] at HL
    clear hlf
    have HV : Hid (FormV w L lc A ac 3 ls ts (.nilIface)) := Lib.hid (formV_nil (by rw [node3 _ _ _ (by omega), HLF.out]; simp))
    clear hp
    try clear hm1
    try clear hne
    try clear hq
    go_enter Try.func74, Try.ntmps74
    go_wp2_with fail
    generalize w.alloc (.cells #[.int .i64 3, .slice L ls.length lc, .slice A ts.length ac] 36) = w0 at *
    refine (HL.out).mono ?_
    rintro e w1 ⟨rfl, hb1⟩
    have p1 := p0.below hb1 p0.lt
    have c0 : w1.cell? ⟨w.heap.size, 0, none⟩ = some (.int .i64 3) := p1.cell 0
    have c1 : w1.cell? ⟨w.heap.size, 1, none⟩ = some (.slice L ls.length lc) := p1.cell 1
    have c2 : w1.cell? ⟨w.heap.size, 2, none⟩ = some (.slice A ts.length ac) := p1.cell 2
    go_wp2
    go_ret
    exact ⟨_, rfl, HV.out, hb0.trans (hb1.mono hb0.size)⟩
  · have i0 : ((ls.length : Int) == 0) = false := by rw [beq_eq_false_iff_ne]; omega
    cases hq : labelsB ls
    · rw [hq] at HL
      have HV : Hid (FormV w L lc A ac 3 ls ts (.nilIface)) := Lib.hid (formV_nil (by rw [node3 _ _ _ (by omega), hq]; simp))
      clear hp
      try clear hm1
      try clear hne
      try clear hq
      go_enter Try.func74, Try.ntmps74
      go_wp2_with fail
      generalize w.alloc (.cells #[.int .i64 3, .slice L ls.length lc, .slice A ts.length ac] 36) = w0 at *
      refine (HL.out).mono ?_
      rintro e w1 ⟨rfl, hb1⟩
      have p1 := p0.below hb1 p0.lt
      have c0 : w1.cell? ⟨w.heap.size, 0, none⟩ = some (.int .i64 3) := p1.cell 0
      have c1 : w1.cell? ⟨w.heap.size, 1, none⟩ = some (.slice L ls.length lc) := p1.cell 1
      have c2 : w1.cell? ⟨w.heap.size, 2, none⟩ = some (.slice A ts.length ac) := p1.cell 2
      go_wp2
      go_ret
      exact ⟨_, rfl, HV.out, hb0.trans (hb1.mono hb0.size)⟩
    · rw [hq] at HL
      by_cases hne : ts.length = ls.length
      · have i1 : ((ts.length : Int) == (ls.length : Int)) = true := by rw [beq_iff_eq]; omega
        have HV : Hid (FormV w L lc A ac 3 ls ts (.iface 80 (.agg #[.slice L ls.length lc, .slice A ts.length ac]))) := Lib.hid (.inr ⟨by rw [node3 _ _ _ (by omega), hq]; simp [hne], .inr (.inr (.inl ⟨rfl, rfl⟩))⟩)
        clear hp
        try clear hm1
        try clear hne
        try clear hq
        go_enter Try.func74, Try.ntmps74
        go_wp2_with fail
        generalize w.alloc (.cells #[.int .i64 3, .slice L ls.length lc, .slice A ts.length ac] 36) = w0 at *
        refine (HL.out).mono ?_
        rintro e w1 ⟨rfl, hb1⟩
        have p1 := p0.below hb1 p0.lt
        have c0 : w1.cell? ⟨w.heap.size, 0, none⟩ = some (.int .i64 3) := p1.cell 0
        have c1 : w1.cell? ⟨w.heap.size, 1, none⟩ = some (.slice L ls.length lc) := p1.cell 1
        have c2 : w1.cell? ⟨w.heap.size, 2, none⟩ = some (.slice A ts.length ac) := p1.cell 2
        go_wp2
        go_ret
        exact ⟨_, rfl, HV.out, hb0.trans (hb1.mono hb0.size)⟩
      · have i1 : ((ts.length : Int) == (ls.length : Int)) = false := by rw [beq_eq_false_iff_ne]; omega
        have HV : Hid (FormV w L lc A ac 3 ls ts (.nilIface)) := Lib.hid (formV_nil (by rw [node3 _ _ _ (by omega)]; simp [hne]))
        clear hp
        try clear hm1
        try clear hne
        try clear hq
        go_enter Try.func74, Try.ntmps74
        go_wp2_with fail
        generalize w.alloc (.cells #[.int .i64 3, .slice L ls.length lc, .slice A ts.length ac] 36) = w0 at *
        refine (HL.out).mono ?_
        rintro e w1 ⟨rfl, hb1⟩
        have p1 := p0.below hb1 p0.lt
        have c0 : w1.cell? ⟨w.heap.size, 0, none⟩ = some (.int .i64 3) := p1.cell 0
        have c1 : w1.cell? ⟨w.heap.size, 1, none⟩ = some (.slice L ls.length lc) := p1.cell 1
        have c2 : w1.cell? ⟨w.heap.size, 2, none⟩ = some (.slice A ts.length ac) := p1.cell 2
        go_wp2
        go_ret
        exact ⟨_, rfl, HV.out, hb0.trans (hb1.mono hb0.size)⟩

set_option maxHeartbeats 4000000 in
theorem formOf_4 (ls : List ByteArray) (ts : List Ty) (L A : Option Addr) (lc ac : Nat) (w : World) (hv : TyAt w w.heap.size (.agg #[.int .i64 4, .slice L ls.length lc, .slice A ts.length ac]) (.mk 4 ls ts)) (hnl : ls.length < maxLen) :
    Calls Try.prog 74 #[.agg #[.int .i64 4, .slice L ls.length lc, .slice A ts.length ac]] w (FormPost w L lc A ac 4 ls ts) := by
  obtain ⟨L', lc', A', ac', hv0, _, hz, hl, ha⟩ := hv.open
  simp only [Ty.kind, Ty.labels, Ty.args] at hv0 hz hl ha
  simp at hv0
  obtain ⟨⟨rfl, rfl⟩, rfl, rfl⟩ := hv0
  obtain ⟨hb0, p0, hs0⟩ := boxes1 w 36 #[.int .i64 4, .slice L ls.length lc, .slice A ts.length ac]
  have hl0 := hl.up' hb0
  have hm := ha.1
  unfold maxLen at hm
  have HL := Lib.hid (areLabels_any L lc ls (w.alloc (.cells #[.int .i64 4, .slice L ls.length lc, .slice A ts.length ac] 36)) hl0 hnl hz)
  have HA := Lib.hid ha
  clear hv hz hl hl0 ha hs0 hnl
  by_cases hp : ls.length = 0
  · have i0 : ((ls.length : Int) == 0) = true := by rw [beq_iff_eq]; omega
    have hlf : labelsB ls = false := by unfold labelsB; simp [hp]
    have HLF := Lib.hid hlf
    rw [hlf] at HL
    clear hlf
    have HV : Hid (FormV w L lc A ac 4 ls ts (.nilIface)) := Lib.hid (formV_nil (by rw [node3 _ _ _ (by omega), HLF.out]; simp))
    clear hp
    try clear hm1
    try clear hne
    try clear hq
    go_enter Try.func74, Try.ntmps74
    go_wp2_with fail
    generalize w.alloc (.cells #[.int .i64 4, .slice L ls.length lc, .slice A ts.length ac] 36) = w0 at *
    refine (HL.out).mono ?_
    rintro e w1 ⟨rfl, hb1⟩
    have p1 := p0.below hb1 p0.lt
    have c0 : w1.cell? ⟨w.heap.size, 0, none⟩ = some (.int .i64 4) := p1.cell 0
    have c1 : w1.cell? ⟨w.heap.size, 1, none⟩ = some (.slice L ls.length lc) := p1.cell 1
    have c2 : w1.cell? ⟨w.heap.size, 2, none⟩ = some (.slice A ts.length ac) := p1.cell 2
    go_wp2
    go_ret
    exact ⟨_, rfl, HV.out, hb0.trans (hb1.mono hb0.size)⟩
  · have i0 : ((ls.length : Int) == 0) = false := by rw [beq_eq_false_iff_ne]; omega
    cases hq : labelsB ls
    · rw [hq] at HL
      have HV : Hid (FormV w L lc A ac 4 ls ts (.nilIface)) := Lib.hid (formV_nil (by rw [node3 _ _ _ (by omega), hq]; simp))
      clear hp
      try clear hm1
      try clear hne
      try clear hq
      go_enter Try.func74, Try.ntmps74
      go_wp2_with fail
      generalize w.alloc (.cells #[.int .i64 4, .slice L ls.length lc, .slice A ts.length ac] 36) = w0 at *
      refine (HL.out).mono ?_
      rintro e w1 ⟨rfl, hb1⟩
      have p1 := p0.below hb1 p0.lt
      have c0 : w1.cell? ⟨w.heap.size, 0, none⟩ = some (.int .i64 4) := p1.cell 0
      have c1 : w1.cell? ⟨w.heap.size, 1, none⟩ = some (.slice L ls.length lc) := p1.cell 1
      have c2 : w1.cell? ⟨w.heap.size, 2, none⟩ = some (.slice A ts.length ac) := p1.cell 2
      go_wp2
      go_ret
      exact ⟨_, rfl, HV.out, hb0.trans (hb1.mono hb0.size)⟩
    · rw [hq] at HL
      by_cases hne : ts.length = ls.length
      · have i1 : ((ts.length : Int) == (ls.length : Int)) = true := by rw [beq_iff_eq]; omega
        have HV : Hid (FormV w L lc A ac 4 ls ts (.iface 82 (.agg #[.slice L ls.length lc, .slice A ts.length ac]))) := Lib.hid (.inr ⟨by rw [node3 _ _ _ (by omega), hq]; simp [hne], .inr (.inr (.inr (.inl ⟨rfl, rfl⟩)))⟩)
        clear hp
        try clear hm1
        try clear hne
        try clear hq
        go_enter Try.func74, Try.ntmps74
        go_wp2_with fail
        generalize w.alloc (.cells #[.int .i64 4, .slice L ls.length lc, .slice A ts.length ac] 36) = w0 at *
        refine (HL.out).mono ?_
        rintro e w1 ⟨rfl, hb1⟩
        have p1 := p0.below hb1 p0.lt
        have c0 : w1.cell? ⟨w.heap.size, 0, none⟩ = some (.int .i64 4) := p1.cell 0
        have c1 : w1.cell? ⟨w.heap.size, 1, none⟩ = some (.slice L ls.length lc) := p1.cell 1
        have c2 : w1.cell? ⟨w.heap.size, 2, none⟩ = some (.slice A ts.length ac) := p1.cell 2
        go_wp2
        go_ret
        exact ⟨_, rfl, HV.out, hb0.trans (hb1.mono hb0.size)⟩
      · have i1 : ((ts.length : Int) == (ls.length : Int)) = false := by rw [beq_eq_false_iff_ne]; omega
        have HV : Hid (FormV w L lc A ac 4 ls ts (.nilIface)) := Lib.hid (formV_nil (by rw [node3 _ _ _ (by omega)]; simp [hne]))
        clear hp
        try clear hm1
        try clear hne
        try clear hq
        go_enter Try.func74, Try.ntmps74
        go_wp2_with fail
        generalize w.alloc (.cells #[.int .i64 4, .slice L ls.length lc, .slice A ts.length ac] 36) = w0 at *
        refine (HL.out).mono ?_
        rintro e w1 ⟨rfl, hb1⟩
        have p1 := p0.below hb1 p0.lt
        have c0 : w1.cell? ⟨w.heap.size, 0, none⟩ = some (.int .i64 4) := p1.cell 0
        have c1 : w1.cell? ⟨w.heap.size, 1, none⟩ = some (.slice L ls.length lc) := p1.cell 1
        have c2 : w1.cell? ⟨w.heap.size, 2, none⟩ = some (.slice A ts.length ac) := p1.cell 2
        go_wp2
        go_ret
        exact ⟨_, rfl, HV.out, hb0.trans (hb1.mono hb0.size)⟩

set_option maxHeartbeats 4000000 in
theorem formOf_5 (ls : List ByteArray) (ts : List Ty) (L A : Option Addr) (lc ac : Nat) (w : World) (hv : TyAt w w.heap.size (.agg #[.int .i64 5, .slice L ls.length lc, .slice A ts.length ac]) (.mk 5 ls ts)) (hnl : ls.length < maxLen) :
    Calls Try.prog 74 #[.agg #[.int .i64 5, .slice L ls.length lc, .slice A ts.length ac]] w (FormPost w L lc A ac 5 ls ts) := by
  obtain ⟨L', lc', A', ac', hv0, _, hz, hl, ha⟩ := hv.open
  simp only [Ty.kind, Ty.labels, Ty.args] at hv0 hz hl ha
  simp at hv0
  obtain ⟨⟨rfl, rfl⟩, rfl, rfl⟩ := hv0
  obtain ⟨hb0, p0, hs0⟩ := boxes1 w 36 #[.int .i64 5, .slice L ls.length lc, .slice A ts.length ac]
  have hl0 := hl.up' hb0
  have hm := ha.1
  unfold maxLen at hm
  have HL := Lib.hid (areLabels_any L lc ls (w.alloc (.cells #[.int .i64 5, .slice L ls.length lc, .slice A ts.length ac] 36)) hl0 hnl hz)
  have HA := Lib.hid ha
  clear hv hz hl hl0 ha hs0 hnl
  by_cases hp : ls.length = 0
  · have i0 : ((ls.length : Int) == 0) = true := by rw [beq_iff_eq]; omega
    have hlf : labelsB ls = false := by unfold labelsB; simp [hp]
    have HLF := Lib.hid hlf
    rw [hlf] at HL
    clear hlf
    by_cases hm1 : ts.length = 1
    · have i1 : ((ts.length : Int) == 1) = true := by rw [beq_iff_eq]; omega
      have i2 : (0 : Int) < (ts.length : Int) := by omega
      obtain ⟨b, off, L1, lc1, A1, ac1, rfl, hbw, q0', q1', q2', -, -, -, -, ht1⟩ := HA.out.elem 0 (by omega)
      have hts : ts = [ts[0]'(by omega)] := by
        match ts, hm1 with
        | [a], _ => rfl
      have hbl : b < (w.alloc (.cells #[.int .i64 5, .slice L ls.length lc, .slice (some ⟨b, off, none⟩) ts.length ac] 36)).heap.size := by simp; omega
      have q00 := (hb0.cell (p := ⟨b, off + 0 * 3, none⟩) hbw).trans q0'
      have q01 := (hb0.cell (p := ⟨b, off + 0 * 3 + 1, none⟩) hbw).trans q1'
      have q02 := (hb0.cell (p := ⟨b, off + 0 * 3 + 2, none⟩) hbw).trans q2'
      simp only [Nat.zero_mul, Nat.add_zero] at q00 q01 q02
      clear q0' q1' q2'
      obtain ⟨kk, hkk⟩ : ∃ kk : Int, kk = (ts[0]'(by omega)).kind := ⟨_, rfl⟩
      obtain ⟨n1, hn1⟩ : ∃ n1 : Nat, n1 = (ts[0]'(by omega)).labels.length := ⟨_, rfl⟩
      obtain ⟨n2, hn2⟩ : ∃ n2 : Nat, n2 = (ts[0]'(by omega)).args.length := ⟨_, rfl⟩
      rw [← hkk] at q00 ht1
      rw [← hn1] at q01 ht1
      rw [← hn2] at q02 ht1
      have HV : Hid (FormV w L lc (some ⟨b, off, none⟩) ac 5 ls ts (.iface 114 (.agg #[.int .i64 kk, .slice L1 n1 lc1, .slice A1 n2 ac1]))) := Lib.hid (.inr ⟨by rw [node5 _ _ _ rfl]; simp [hp, hm1], .inr (.inr (.inr (.inr ⟨rfl, _, _, _, _, hts, ht1, rfl⟩)))⟩)
      clear hp hts ht1 hm1 hkk hn1 hn2
      go_enter Try.func74, Try.ntmps74
      go_wp2_with fail
      generalize w.alloc (.cells #[.int .i64 5, .slice L ls.length lc, .slice (some ⟨b, off, none⟩) ts.length ac] 36) = w0 at *
      refine (HL.out).mono ?_
      rintro e w1 ⟨rfl, hb1⟩
      have p1 := p0.below hb1 p0.lt
      have c0 : w1.cell? ⟨w.heap.size, 0, none⟩ = some (.int .i64 5) := p1.cell 0
      have c1 : w1.cell? ⟨w.heap.size, 1, none⟩ = some (.slice L ls.length lc) := p1.cell 1
      have c2 : w1.cell? ⟨w.heap.size, 2, none⟩ = some (.slice (some ⟨b, off, none⟩) ts.length ac) := p1.cell 2
      have q0 := (hb1.cell (p := ⟨b, off, none⟩) hbl).trans q00
      have q1 := (hb1.cell (p := ⟨b, off + 1, none⟩) hbl).trans q01
      have q2 := (hb1.cell (p := ⟨b, off + 2, none⟩) hbl).trans q02
      clear q00 q01 q02
      go_wp2
      go_ret
      exact ⟨_, rfl, HV.out, hb0.trans (hb1.mono hb0.size)⟩
    · have i1 : ((ts.length : Int) == 1) = false := by rw [beq_eq_false_iff_ne]; omega
      have HV : Hid (FormV w L lc A ac 5 ls ts (.nilIface)) := Lib.hid (formV_nil (by rw [node5 _ _ _ rfl]; simp [hm1]))
      clear hp
      try clear hm1
      try clear hne
      try clear hq
      go_enter Try.func74, Try.ntmps74
      go_wp2_with fail
      generalize w.alloc (.cells #[.int .i64 5, .slice L ls.length lc, .slice A ts.length ac] 36) = w0 at *
      refine (HL.out).mono ?_
      rintro e w1 ⟨rfl, hb1⟩
      have p1 := p0.below hb1 p0.lt
      have c0 : w1.cell? ⟨w.heap.size, 0, none⟩ = some (.int .i64 5) := p1.cell 0
      have c1 : w1.cell? ⟨w.heap.size, 1, none⟩ = some (.slice L ls.length lc) := p1.cell 1
      have c2 : w1.cell? ⟨w.heap.size, 2, none⟩ = some (.slice A ts.length ac) := p1.cell 2
      go_wp2
      go_ret
      exact ⟨_, rfl, HV.out, hb0.trans (hb1.mono hb0.size)⟩
  · have i0 : ((ls.length : Int) == 0) = false := by rw [beq_eq_false_iff_ne]; omega
    cases hq : labelsB ls
    · rw [hq] at HL
      have HV : Hid (FormV w L lc A ac 5 ls ts (.nilIface)) := Lib.hid (formV_nil (by rw [node5 _ _ _ rfl]; simp [hp]))
      clear hp
      try clear hm1
      try clear hne
      try clear hq
      go_enter Try.func74, Try.ntmps74
      go_wp2_with fail
      generalize w.alloc (.cells #[.int .i64 5, .slice L ls.length lc, .slice A ts.length ac] 36) = w0 at *
      refine (HL.out).mono ?_
      rintro e w1 ⟨rfl, hb1⟩
      have p1 := p0.below hb1 p0.lt
      have c0 : w1.cell? ⟨w.heap.size, 0, none⟩ = some (.int .i64 5) := p1.cell 0
      have c1 : w1.cell? ⟨w.heap.size, 1, none⟩ = some (.slice L ls.length lc) := p1.cell 1
      have c2 : w1.cell? ⟨w.heap.size, 2, none⟩ = some (.slice A ts.length ac) := p1.cell 2
      go_wp2
      go_ret
      exact ⟨_, rfl, HV.out, hb0.trans (hb1.mono hb0.size)⟩
    · rw [hq] at HL
      by_cases hne : ts.length = ls.length
      · have i1 : ((ts.length : Int) == (ls.length : Int)) = true := by rw [beq_iff_eq]; omega
        have HV : Hid (FormV w L lc A ac 5 ls ts (.nilIface)) := Lib.hid (formV_nil (by rw [node5 _ _ _ rfl]; simp [hp]))
        clear hp
        try clear hm1
        try clear hne
        try clear hq
        go_enter Try.func74, Try.ntmps74
        go_wp2_with fail
        generalize w.alloc (.cells #[.int .i64 5, .slice L ls.length lc, .slice A ts.length ac] 36) = w0 at *
        refine (HL.out).mono ?_
        rintro e w1 ⟨rfl, hb1⟩
        have p1 := p0.below hb1 p0.lt
        have c0 : w1.cell? ⟨w.heap.size, 0, none⟩ = some (.int .i64 5) := p1.cell 0
        have c1 : w1.cell? ⟨w.heap.size, 1, none⟩ = some (.slice L ls.length lc) := p1.cell 1
        have c2 : w1.cell? ⟨w.heap.size, 2, none⟩ = some (.slice A ts.length ac) := p1.cell 2
        go_wp2
        go_ret
        exact ⟨_, rfl, HV.out, hb0.trans (hb1.mono hb0.size)⟩
      · have i1 : ((ts.length : Int) == (ls.length : Int)) = false := by rw [beq_eq_false_iff_ne]; omega
        have HV : Hid (FormV w L lc A ac 5 ls ts (.nilIface)) := Lib.hid (formV_nil (by rw [node5 _ _ _ rfl]; simp [hp]))
        clear hp
        try clear hm1
        try clear hne
        try clear hq
        go_enter Try.func74, Try.ntmps74
        go_wp2_with fail
        generalize w.alloc (.cells #[.int .i64 5, .slice L ls.length lc, .slice A ts.length ac] 36) = w0 at *
        refine (HL.out).mono ?_
        rintro e w1 ⟨rfl, hb1⟩
        have p1 := p0.below hb1 p0.lt
        have c0 : w1.cell? ⟨w.heap.size, 0, none⟩ = some (.int .i64 5) := p1.cell 0
        have c1 : w1.cell? ⟨w.heap.size, 1, none⟩ = some (.slice L ls.length lc) := p1.cell 1
        have c2 : w1.cell? ⟨w.heap.size, 2, none⟩ = some (.slice A ts.length ac) := p1.cell 2
        go_wp2
        go_ret
        exact ⟨_, rfl, HV.out, hb0.trans (hb1.mono hb0.size)⟩

set_option maxHeartbeats 4000000 in
theorem formOf_0 (k0 : Int) (ls : List ByteArray) (ts : List Ty) (L A : Option Addr) (lc ac : Nat) (w : World) (hv : TyAt w w.heap.size (.agg #[.int .i64 k0, .slice L ls.length lc, .slice A ts.length ac]) (.mk k0 ls ts)) (hnl : ls.length < maxLen) (hk : k0 ≠ 1 ∧ k0 ≠ 2 ∧ k0 ≠ 3 ∧ k0 ≠ 4 ∧ k0 ≠ 5) :
    Calls Try.prog 74 #[.agg #[.int .i64 k0, .slice L ls.length lc, .slice A ts.length ac]] w (FormPost w L lc A ac k0 ls ts) := by
  obtain ⟨L', lc', A', ac', hv0, _, hz, hl, ha⟩ := hv.open
  simp only [Ty.kind, Ty.labels, Ty.args] at hv0 hz hl ha
  simp at hv0
  obtain ⟨⟨rfl, rfl⟩, rfl, rfl⟩ := hv0
  obtain ⟨hb0, p0, hs0⟩ := boxes1 w 36 #[.int .i64 k0, .slice L ls.length lc, .slice A ts.length ac]
  have hl0 := hl.up' hb0
  have hm := ha.1
  unfold maxLen at hm
  have HL := Lib.hid (areLabels_any L lc ls (w.alloc (.cells #[.int .i64 k0, .slice L ls.length lc, .slice A ts.length ac] 36)) hl0 hnl hz)
  have HA := Lib.hid ha
  clear hv hz hl hl0 ha hs0 hnl
  have j1 : (k0 == 1) = false := by rw [beq_eq_false_iff_ne]; omega
  have j2 : (k0 == 2) = false := by rw [beq_eq_false_iff_ne]; omega
  have j3 : (k0 == 3) = false := by rw [beq_eq_false_iff_ne]; omega
  have j4 : (k0 == 4) = false := by rw [beq_eq_false_iff_ne]; omega
  have j5 : (k0 == 5) = false := by rw [beq_eq_false_iff_ne]; omega
  have hnode := Lib.hid (node0 k0 ls ts.length hk)
  clear hk
  by_cases hp : ls.length = 0
  · have i0 : ((ls.length : Int) == 0) = true := by rw [beq_iff_eq]; omega
    have hlf : labelsB ls = false := by unfold labelsB; simp [hp]
    have HLF := Lib.hid hlf
    rw [hlf] at HL
    clear hlf
    have HV : Hid (FormV w L lc A ac k0 ls ts (.nilIface)) := Lib.hid (formV_nil (by exact hnode.out))
    clear hp
    try clear hm1
    try clear hne
    try clear hq
    go_enter Try.func74, Try.ntmps74
    go_wp2_with fail
    generalize w.alloc (.cells #[.int .i64 k0, .slice L ls.length lc, .slice A ts.length ac] 36) = w0 at *
    refine (HL.out).mono ?_
    rintro e w1 ⟨rfl, hb1⟩
    have p1 := p0.below hb1 p0.lt
    have c0 : w1.cell? ⟨w.heap.size, 0, none⟩ = some (.int .i64 k0) := p1.cell 0
    have c1 : w1.cell? ⟨w.heap.size, 1, none⟩ = some (.slice L ls.length lc) := p1.cell 1
    have c2 : w1.cell? ⟨w.heap.size, 2, none⟩ = some (.slice A ts.length ac) := p1.cell 2
    go_wp2
    go_ret
    exact ⟨_, rfl, HV.out, hb0.trans (hb1.mono hb0.size)⟩
  · have i0 : ((ls.length : Int) == 0) = false := by rw [beq_eq_false_iff_ne]; omega
    cases hq : labelsB ls
    · rw [hq] at HL
      have HV : Hid (FormV w L lc A ac k0 ls ts (.nilIface)) := Lib.hid (formV_nil (by exact hnode.out))
      clear hp
      try clear hm1
      try clear hne
      try clear hq
      go_enter Try.func74, Try.ntmps74
      go_wp2_with fail
      generalize w.alloc (.cells #[.int .i64 k0, .slice L ls.length lc, .slice A ts.length ac] 36) = w0 at *
      refine (HL.out).mono ?_
      rintro e w1 ⟨rfl, hb1⟩
      have p1 := p0.below hb1 p0.lt
      have c0 : w1.cell? ⟨w.heap.size, 0, none⟩ = some (.int .i64 k0) := p1.cell 0
      have c1 : w1.cell? ⟨w.heap.size, 1, none⟩ = some (.slice L ls.length lc) := p1.cell 1
      have c2 : w1.cell? ⟨w.heap.size, 2, none⟩ = some (.slice A ts.length ac) := p1.cell 2
      go_wp2
      go_ret
      exact ⟨_, rfl, HV.out, hb0.trans (hb1.mono hb0.size)⟩
    · rw [hq] at HL
      by_cases hne : ts.length = ls.length
      · have i1 : ((ts.length : Int) == (ls.length : Int)) = true := by rw [beq_iff_eq]; omega
        have HV : Hid (FormV w L lc A ac k0 ls ts (.nilIface)) := Lib.hid (formV_nil (by exact hnode.out))
        clear hp
        try clear hm1
        try clear hne
        try clear hq
        go_enter Try.func74, Try.ntmps74
        go_wp2_with fail
        generalize w.alloc (.cells #[.int .i64 k0, .slice L ls.length lc, .slice A ts.length ac] 36) = w0 at *
        refine (HL.out).mono ?_
        rintro e w1 ⟨rfl, hb1⟩
        have p1 := p0.below hb1 p0.lt
        have c0 : w1.cell? ⟨w.heap.size, 0, none⟩ = some (.int .i64 k0) := p1.cell 0
        have c1 : w1.cell? ⟨w.heap.size, 1, none⟩ = some (.slice L ls.length lc) := p1.cell 1
        have c2 : w1.cell? ⟨w.heap.size, 2, none⟩ = some (.slice A ts.length ac) := p1.cell 2
        go_wp2
        go_ret
        exact ⟨_, rfl, HV.out, hb0.trans (hb1.mono hb0.size)⟩
      · have i1 : ((ts.length : Int) == (ls.length : Int)) = false := by rw [beq_eq_false_iff_ne]; omega
        have HV : Hid (FormV w L lc A ac k0 ls ts (.nilIface)) := Lib.hid (formV_nil (by exact hnode.out))
        clear hp
        try clear hm1
        try clear hne
        try clear hq
        go_enter Try.func74, Try.ntmps74
        go_wp2_with fail
        generalize w.alloc (.cells #[.int .i64 k0, .slice L ls.length lc, .slice A ts.length ac] 36) = w0 at *
        refine (HL.out).mono ?_
        rintro e w1 ⟨rfl, hb1⟩
        have p1 := p0.below hb1 p0.lt
        have c0 : w1.cell? ⟨w.heap.size, 0, none⟩ = some (.int .i64 k0) := p1.cell 0
        have c1 : w1.cell? ⟨w.heap.size, 1, none⟩ = some (.slice L ls.length lc) := p1.cell 1
        have c2 : w1.cell? ⟨w.heap.size, 2, none⟩ = some (.slice A ts.length ac) := p1.cell 2
        go_wp2
        go_ret
        exact ⟨_, rfl, HV.out, hb0.trans (hb1.mono hb0.size)⟩

theorem formOf_any (k0 : Int) (ls : List ByteArray) (ts : List Ty) (L A : Option Addr) (lc ac : Nat) (w : World) (hv : TyAt w w.heap.size (.agg #[.int .i64 k0, .slice L ls.length lc, .slice A ts.length ac]) (.mk k0 ls ts)) (hnl : ls.length < maxLen) :
    Calls Try.prog 74 #[.agg #[.int .i64 k0, .slice L ls.length lc, .slice A ts.length ac]] w (FormPost w L lc A ac k0 ls ts) := by
  by_cases h1 : k0 = 1
  · subst h1; exact formOf_1 ls ts L A lc ac w hv hnl
  by_cases h2 : k0 = 2
  · subst h2; exact formOf_2 ls ts L A lc ac w hv hnl
  by_cases h3 : k0 = 3
  · subst h3; exact formOf_3 ls ts L A lc ac w hv hnl
  by_cases h4 : k0 = 4
  · subst h4; exact formOf_4 ls ts L A lc ac w hv hnl
  by_cases h5 : k0 = 5
  · subst h5; exact formOf_5 ls ts L A lc ac w hv hnl
  exact formOf_0 k0 ls ts L A lc ac w hv hnl ⟨h1, h2, h3, h4, h5⟩

end Go.Proofs.Ytghipacdhpglcaa
