/- Lemmas: TypKindA, TypKindB. -/
import Derived.Test.YthdfidhijmcbdaaGreatDoorTypTwo
import Derived.Test.YthdfidhijmcbdaaGreatDoorTypMap
import Derived.Test.YthdfidhijmcbdaaGreatDoorTypElse
import Derived.Test.YthdfidhijmcbdaaGreatDoorTypLeaf

section
namespace Go.Proofs.YthdfidhijmcbdaaGreatDoor
set_option maxRecDepth 100000
set_option linter.unusedSimpArgs false
open Go.RowKit
attribute [local go_sem ↓] Go.wp_at_zero Go.wp_at_succ

set_option maxHeartbeats 4000000 in
theorem typKind_id (n0 : Int) (nm : ByteArray) (ts : List Ot) (B : Option Addr) (bc : Nat) {N : Nat → Prop} {u : Value} {r : Option (Ty × Int)} (s : Ty) (sv : Value) (w : World) (hN : ∀ b, N b → b < w.heap.size) (hU : UnfitAt w u) (hJ : JoinsAt w) (hv : OwnA N w sv s) (ho : OtAt w w.heap.size (.agg #[.int .i64 1, .string nm, .int .i64 n0, .slice B ts.length bc]) (.mk 1 n0 nm ts)) (hval : validB s = true) (hf : formOt (.mk 1 n0 nm ts) = true) (hz : szOt (.mk 1 n0 nm ts) ≤ 1048576) (hr : r = leafO 1 nm s) :
    Calls Tryz.prog 98 #[sv, .agg #[.int .i64 1, .string nm, .int .i64 n0, .slice B ts.length bc]] w (TypPost N u r w) := by
  have hnm := form_name hf
  have hse := szTy_valid hval
  obtain ⟨L, lc, A, ac, rfl⟩ := hv.open
  obtain ⟨hb0, p0, q0, zz0, hs0⟩ := boxes3 w 27 30 60 #[.int .i64 s.kind, .slice L s.labels.length lc, .slice A s.args.length ac] #[.int .i64 1, .string nm, .int .i64 n0, .slice B ts.length bc] #[.int .i64 0, .slice none 0 0, .slice none 0 0, .int .i64 0]
  have HV0 := Lib.hid ((hv.late (w.heap.size + 1 + 1) (by omega)).up hb0)
  have HO0 := Lib.hid (ho.up hb0)
  have HN0 := Lib.hid (show ∀ b, (N b ∨ b = w.heap.size + 1 + 1) → b < (((w.alloc (.cells #[.int .i64 s.kind, .slice L s.labels.length lc, .slice A s.args.length ac] 27)).alloc (.cells #[.int .i64 1, .string nm, .int .i64 n0, .slice B ts.length bc] 30)).alloc (.cells #[.int .i64 0, .slice none 0 0, .slice none 0 0, .int .i64 0] 60)).heap.size from fun b hb => hb.elim (fun hb => Nat.lt_of_lt_of_le (hN b hb) hb0.size) (fun e => e ▸ zz0.lt))
  have HU0 := Lib.hid (hU.below hb0)
  have HJ0 := Lib.hid (hJ.below hb0)
  obtain ⟨hug, huc, ua, rfl⟩ := hU
  have HR := Lib.hid hr
  have HB0 := Lib.hid hb0
  have HZ0 := Lib.hid zz0
  have HP0 := Lib.hid p0
  have HQ0 := Lib.hid q0
  have HZZ := Lib.hid hz
  have HFO := Lib.hid hf
  have HOW := Lib.hid ho
  clear hv hN hr hJ hug huc ho hb0 zz0 p0 q0 hs0 hz hf
  go_enter Tryz.func98, Tryz.ntmps98
  go_upto_region 1 with fail
  generalize ((w.alloc (.cells #[.int .i64 s.kind, .slice L s.labels.length lc, .slice A s.args.length ac] 27)).alloc (.cells #[.int .i64 1, .string nm, .int .i64 n0, .slice B ts.length bc] 30)).alloc (.cells #[.int .i64 0, .slice none 0 0, .slice none 0 0, .int .i64 0] 60) = w0 at *
  have sp0 : w0.cell? ⟨w.heap.size, 0, none⟩ = some (.int .i64 s.kind) := HP0.out.cell 0
  have sp1 : w0.cell? ⟨w.heap.size, 1, none⟩ = some (.slice L s.labels.length lc) := HP0.out.cell 1
  have sp2 : w0.cell? ⟨w.heap.size, 2, none⟩ = some (.slice A s.args.length ac) := HP0.out.cell 2
  have qo0 : w0.cell? ⟨w.heap.size + 1, 0, none⟩ = some (.int .i64 1) := HQ0.out.cell 0
  have qo1 : w0.cell? ⟨w.heap.size + 1, 1, none⟩ = some (.string nm) := HQ0.out.cell 1
  have qo2 : w0.cell? ⟨w.heap.size + 1, 2, none⟩ = some (.int .i64 n0) := HQ0.out.cell 2
  have qo3 : w0.cell? ⟨w.heap.size + 1, 3, none⟩ = some (.slice B ts.length bc) := HQ0.out.cell 3
  have HF := Lib.hid (fun a b c d => typ_fin (r := r) (u := (.iface 195 (.pointer (some ua)))) (kd := 1) (show w.heap.size ≤ w.heap.size + 1 + 1 by omega) HB0.out HV0.out (by omega) (.inr ⟨HR.out.trans (by simp [leafO]), rfl⟩) a b c d)
  have d0 : w0.cell? ⟨w.heap.size + 1 + 1, 0, none⟩ = some (.int .i64 0) := HZ0.out.cell 0
  have df0 : w0.frozen? ⟨w.heap.size + 1 + 1, 0, none⟩ = false := HZ0.out.free 0
  have d1 : w0.cell? ⟨w.heap.size + 1 + 1, 1, none⟩ = some (.slice none 0 0) := HZ0.out.cell 1
  have df1 : w0.frozen? ⟨w.heap.size + 1 + 1, 1, none⟩ = false := HZ0.out.free 1
  have d2 : w0.cell? ⟨w.heap.size + 1 + 1, 2, none⟩ = some (.slice none 0 0) := HZ0.out.cell 2
  have df2 : w0.frozen? ⟨w.heap.size + 1 + 1, 2, none⟩ = false := HZ0.out.free 2
  have d3 : w0.cell? ⟨w.heap.size + 1 + 1, 3, none⟩ = some (.int .i64 0) := HZ0.out.cell 3
  have df3 : w0.frozen? ⟨w.heap.size + 1 + 1, 3, none⟩ = false := HZ0.out.free 3
  clear hval hse hnm
  go_wp2
  exact bodyPost_ret (v := .tuple #[.agg #[.int .i64 s.kind, .slice L s.labels.length lc, .slice A s.args.length ac, .int .i64 1], .nilIface]) (by simp [results, Tryz.results98, go_sem, d0, d1, d2, d3]) rfl (HF.out _ _ _ _)

set_option maxHeartbeats 4000000 in
theorem typKind_field (n0 : Int) (nm : ByteArray) (ts : List Ot) (B : Option Addr) (bc : Nat) {N : Nat → Prop} {u : Value} {r : Option (Ty × Int)} (s : Ty) (sv : Value) (w : World) (hN : ∀ b, N b → b < w.heap.size) (hU : UnfitAt w u) (hJ : JoinsAt w) (hv : OwnA N w sv s) (ho : OtAt w w.heap.size (.agg #[.int .i64 2, .string nm, .int .i64 n0, .slice B ts.length bc]) (.mk 2 n0 nm ts)) (hval : validB s = true) (hf : formOt (.mk 2 n0 nm ts) = true) (hz : szOt (.mk 2 n0 nm ts) ≤ 1048576) (hr : r = leafO 2 nm s) :
    Calls Tryz.prog 98 #[sv, .agg #[.int .i64 2, .string nm, .int .i64 n0, .slice B ts.length bc]] w (TypPost N u r w) := by
  have hnm := form_name hf
  have hse := szTy_valid hval
  obtain ⟨L, lc, A, ac, rfl⟩ := hv.open
  obtain ⟨hb0, p0, q0, zz0, hs0⟩ := boxes3 w 27 30 60 #[.int .i64 s.kind, .slice L s.labels.length lc, .slice A s.args.length ac] #[.int .i64 2, .string nm, .int .i64 n0, .slice B ts.length bc] #[.int .i64 0, .slice none 0 0, .slice none 0 0, .int .i64 0]
  have HV0 := Lib.hid ((hv.late (w.heap.size + 1 + 1) (by omega)).up hb0)
  have HO0 := Lib.hid (ho.up hb0)
  have HN0 := Lib.hid (show ∀ b, (N b ∨ b = w.heap.size + 1 + 1) → b < (((w.alloc (.cells #[.int .i64 s.kind, .slice L s.labels.length lc, .slice A s.args.length ac] 27)).alloc (.cells #[.int .i64 2, .string nm, .int .i64 n0, .slice B ts.length bc] 30)).alloc (.cells #[.int .i64 0, .slice none 0 0, .slice none 0 0, .int .i64 0] 60)).heap.size from fun b hb => hb.elim (fun hb => Nat.lt_of_lt_of_le (hN b hb) hb0.size) (fun e => e ▸ zz0.lt))
  have HU0 := Lib.hid (hU.below hb0)
  have HJ0 := Lib.hid (hJ.below hb0)
  obtain ⟨hug, huc, ua, rfl⟩ := hU
  have HR := Lib.hid hr
  have HB0 := Lib.hid hb0
  have HZ0 := Lib.hid zz0
  have HP0 := Lib.hid p0
  have HQ0 := Lib.hid q0
  have HZZ := Lib.hid hz
  have HFO := Lib.hid hf
  have HOW := Lib.hid ho
  clear hv hN hr hJ hug huc ho hb0 zz0 p0 q0 hs0 hz hf
  go_enter Tryz.func98, Tryz.ntmps98
  go_upto_region 1 with fail
  generalize ((w.alloc (.cells #[.int .i64 s.kind, .slice L s.labels.length lc, .slice A s.args.length ac] 27)).alloc (.cells #[.int .i64 2, .string nm, .int .i64 n0, .slice B ts.length bc] 30)).alloc (.cells #[.int .i64 0, .slice none 0 0, .slice none 0 0, .int .i64 0] 60) = w0 at *
  have sp0 : w0.cell? ⟨w.heap.size, 0, none⟩ = some (.int .i64 s.kind) := HP0.out.cell 0
  have sp1 : w0.cell? ⟨w.heap.size, 1, none⟩ = some (.slice L s.labels.length lc) := HP0.out.cell 1
  have sp2 : w0.cell? ⟨w.heap.size, 2, none⟩ = some (.slice A s.args.length ac) := HP0.out.cell 2
  have qo0 : w0.cell? ⟨w.heap.size + 1, 0, none⟩ = some (.int .i64 2) := HQ0.out.cell 0
  have qo1 : w0.cell? ⟨w.heap.size + 1, 1, none⟩ = some (.string nm) := HQ0.out.cell 1
  have qo2 : w0.cell? ⟨w.heap.size + 1, 2, none⟩ = some (.int .i64 n0) := HQ0.out.cell 2
  have qo3 : w0.cell? ⟨w.heap.size + 1, 3, none⟩ = some (.slice B ts.length bc) := HQ0.out.cell 3
  have HC := Lib.hid (typPart_any (N := fun b => N b ∨ b = w.heap.size + 1 + 1) (u := (.iface 195 (.pointer (some ua)))) (r := r) s _ 3 nm 2 w0 HN0.out HU0.out HV0.out hval (HR.out.trans (by simp [leafO])))
  clear hval hse hnm
  go_wp2_with fail
  refine HC.out.mono ?_
  rintro e w1 ⟨L1, lc1, A1, ac1, t1, k1, x1, rfl, hv1, hb1, hs1, hor1⟩
  have HF := Lib.hid (fun a b c d => typ_fin (r := r) (show w.heap.size ≤ w.heap.size + 1 + 1 by omega) (HB0.out.trans (hb1.mono HB0.out.size)) hv1 hs1 hor1 a b c d)
  have z1 := HZ0.out.below hb1 HZ0.out.lt
  have d0 : w1.cell? ⟨w.heap.size + 1 + 1, 0, none⟩ = some (.int .i64 0) := z1.cell 0
  have df0 : w1.frozen? ⟨w.heap.size + 1 + 1, 0, none⟩ = false := z1.free 0
  have d1 : w1.cell? ⟨w.heap.size + 1 + 1, 1, none⟩ = some (.slice none 0 0) := z1.cell 1
  have df1 : w1.frozen? ⟨w.heap.size + 1 + 1, 1, none⟩ = false := z1.free 1
  have d2 : w1.cell? ⟨w.heap.size + 1 + 1, 2, none⟩ = some (.slice none 0 0) := z1.cell 2
  have df2 : w1.frozen? ⟨w.heap.size + 1 + 1, 2, none⟩ = false := z1.free 2
  have d3 : w1.cell? ⟨w.heap.size + 1 + 1, 3, none⟩ = some (.int .i64 0) := z1.cell 3
  have df3 : w1.frozen? ⟨w.heap.size + 1 + 1, 3, none⟩ = false := z1.free 3
  clear hv1 hs1 hor1 hb1 z1 HC sp0 sp1 sp2 qo0 qo1 qo2 qo3
  go_wp2
  exact bodyPost_ret (v := .tuple #[.agg #[.int .i64 t1.kind, .slice L1 t1.labels.length lc1, .slice A1 t1.args.length ac1, .int .i64 k1], x1]) (by simp [results, Tryz.results98, go_sem, d0, d1, d2, d3]) rfl (HF.out _ _ _ _)

set_option maxHeartbeats 4000000 in
theorem typKind_case (n0 : Int) (nm : ByteArray) (ts : List Ot) (B : Option Addr) (bc : Nat) {N : Nat → Prop} {u : Value} {r : Option (Ty × Int)} (s : Ty) (sv : Value) (w : World) (hN : ∀ b, N b → b < w.heap.size) (hU : UnfitAt w u) (hJ : JoinsAt w) (hv : OwnA N w sv s) (ho : OtAt w w.heap.size (.agg #[.int .i64 3, .string nm, .int .i64 n0, .slice B ts.length bc]) (.mk 3 n0 nm ts)) (hval : validB s = true) (hf : formOt (.mk 3 n0 nm ts) = true) (hz : szOt (.mk 3 n0 nm ts) ≤ 1048576) (hr : r = leafO 3 nm s) :
    Calls Tryz.prog 98 #[sv, .agg #[.int .i64 3, .string nm, .int .i64 n0, .slice B ts.length bc]] w (TypPost N u r w) := by
  have hnm := form_name hf
  have hse := szTy_valid hval
  obtain ⟨L, lc, A, ac, rfl⟩ := hv.open
  obtain ⟨hb0, p0, q0, zz0, hs0⟩ := boxes3 w 27 30 60 #[.int .i64 s.kind, .slice L s.labels.length lc, .slice A s.args.length ac] #[.int .i64 3, .string nm, .int .i64 n0, .slice B ts.length bc] #[.int .i64 0, .slice none 0 0, .slice none 0 0, .int .i64 0]
  have HV0 := Lib.hid ((hv.late (w.heap.size + 1 + 1) (by omega)).up hb0)
  have HO0 := Lib.hid (ho.up hb0)
  have HN0 := Lib.hid (show ∀ b, (N b ∨ b = w.heap.size + 1 + 1) → b < (((w.alloc (.cells #[.int .i64 s.kind, .slice L s.labels.length lc, .slice A s.args.length ac] 27)).alloc (.cells #[.int .i64 3, .string nm, .int .i64 n0, .slice B ts.length bc] 30)).alloc (.cells #[.int .i64 0, .slice none 0 0, .slice none 0 0, .int .i64 0] 60)).heap.size from fun b hb => hb.elim (fun hb => Nat.lt_of_lt_of_le (hN b hb) hb0.size) (fun e => e ▸ zz0.lt))
  have HU0 := Lib.hid (hU.below hb0)
  have HJ0 := Lib.hid (hJ.below hb0)
  obtain ⟨hug, huc, ua, rfl⟩ := hU
  have HR := Lib.hid hr
  have HB0 := Lib.hid hb0
  have HZ0 := Lib.hid zz0
  have HP0 := Lib.hid p0
  have HQ0 := Lib.hid q0
  have HZZ := Lib.hid hz
  have HFO := Lib.hid hf
  have HOW := Lib.hid ho
  clear hv hN hr hJ hug huc ho hb0 zz0 p0 q0 hs0 hz hf
  go_enter Tryz.func98, Tryz.ntmps98
  go_upto_region 1 with fail
  generalize ((w.alloc (.cells #[.int .i64 s.kind, .slice L s.labels.length lc, .slice A s.args.length ac] 27)).alloc (.cells #[.int .i64 3, .string nm, .int .i64 n0, .slice B ts.length bc] 30)).alloc (.cells #[.int .i64 0, .slice none 0 0, .slice none 0 0, .int .i64 0] 60) = w0 at *
  have sp0 : w0.cell? ⟨w.heap.size, 0, none⟩ = some (.int .i64 s.kind) := HP0.out.cell 0
  have sp1 : w0.cell? ⟨w.heap.size, 1, none⟩ = some (.slice L s.labels.length lc) := HP0.out.cell 1
  have sp2 : w0.cell? ⟨w.heap.size, 2, none⟩ = some (.slice A s.args.length ac) := HP0.out.cell 2
  have qo0 : w0.cell? ⟨w.heap.size + 1, 0, none⟩ = some (.int .i64 3) := HQ0.out.cell 0
  have qo1 : w0.cell? ⟨w.heap.size + 1, 1, none⟩ = some (.string nm) := HQ0.out.cell 1
  have qo2 : w0.cell? ⟨w.heap.size + 1, 2, none⟩ = some (.int .i64 n0) := HQ0.out.cell 2
  have qo3 : w0.cell? ⟨w.heap.size + 1, 3, none⟩ = some (.slice B ts.length bc) := HQ0.out.cell 3
  have HC := Lib.hid (typPart_any (N := fun b => N b ∨ b = w.heap.size + 1 + 1) (u := (.iface 195 (.pointer (some ua)))) (r := r) s _ 4 nm 3 w0 HN0.out HU0.out HV0.out hval (HR.out.trans (by simp [leafO])))
  clear hval hse hnm
  go_wp2_with fail
  refine HC.out.mono ?_
  rintro e w1 ⟨L1, lc1, A1, ac1, t1, k1, x1, rfl, hv1, hb1, hs1, hor1⟩
  have HF := Lib.hid (fun a b c d => typ_fin (r := r) (show w.heap.size ≤ w.heap.size + 1 + 1 by omega) (HB0.out.trans (hb1.mono HB0.out.size)) hv1 hs1 hor1 a b c d)
  have z1 := HZ0.out.below hb1 HZ0.out.lt
  have d0 : w1.cell? ⟨w.heap.size + 1 + 1, 0, none⟩ = some (.int .i64 0) := z1.cell 0
  have df0 : w1.frozen? ⟨w.heap.size + 1 + 1, 0, none⟩ = false := z1.free 0
  have d1 : w1.cell? ⟨w.heap.size + 1 + 1, 1, none⟩ = some (.slice none 0 0) := z1.cell 1
  have df1 : w1.frozen? ⟨w.heap.size + 1 + 1, 1, none⟩ = false := z1.free 1
  have d2 : w1.cell? ⟨w.heap.size + 1 + 1, 2, none⟩ = some (.slice none 0 0) := z1.cell 2
  have df2 : w1.frozen? ⟨w.heap.size + 1 + 1, 2, none⟩ = false := z1.free 2
  have d3 : w1.cell? ⟨w.heap.size + 1 + 1, 3, none⟩ = some (.int .i64 0) := z1.cell 3
  have df3 : w1.frozen? ⟨w.heap.size + 1 + 1, 3, none⟩ = false := z1.free 3
  clear hv1 hs1 hor1 hb1 z1 HC sp0 sp1 sp2 qo0 qo1 qo2 qo3
  go_wp2
  exact bodyPost_ret (v := .tuple #[.agg #[.int .i64 t1.kind, .slice L1 t1.labels.length lc1, .slice A1 t1.args.length ac1, .int .i64 k1], x1]) (by simp [results, Tryz.results98, go_sem, d0, d1, d2, d3]) rfl (HF.out _ _ _ _)

set_option maxHeartbeats 4000000 in
theorem typKind_each (n0 : Int) (nm : ByteArray) (ts : List Ot) (B : Option Addr) (bc : Nat) {N : Nat → Prop} {u : Value} {r : Option (Ty × Int)} (s : Ty) (sv : Value) (w : World) (hN : ∀ b, N b → b < w.heap.size) (hU : UnfitAt w u) (hJ : JoinsAt w) (hv : OwnA N w sv s) (ho : OtAt w w.heap.size (.agg #[.int .i64 4, .string nm, .int .i64 n0, .slice B ts.length bc]) (.mk 4 n0 nm ts)) (hval : validB s = true) (hf : formOt (.mk 4 n0 nm ts) = true) (hz : szOt (.mk 4 n0 nm ts) ≤ 1048576) (hr : r = leafO 4 nm s) :
    Calls Tryz.prog 98 #[sv, .agg #[.int .i64 4, .string nm, .int .i64 n0, .slice B ts.length bc]] w (TypPost N u r w) := by
  have hnm := form_name hf
  have hse := szTy_valid hval
  obtain ⟨L, lc, A, ac, rfl⟩ := hv.open
  obtain ⟨hb0, p0, q0, zz0, hs0⟩ := boxes3 w 27 30 60 #[.int .i64 s.kind, .slice L s.labels.length lc, .slice A s.args.length ac] #[.int .i64 4, .string nm, .int .i64 n0, .slice B ts.length bc] #[.int .i64 0, .slice none 0 0, .slice none 0 0, .int .i64 0]
  have HV0 := Lib.hid ((hv.late (w.heap.size + 1 + 1) (by omega)).up hb0)
  have HO0 := Lib.hid (ho.up hb0)
  have HN0 := Lib.hid (show ∀ b, (N b ∨ b = w.heap.size + 1 + 1) → b < (((w.alloc (.cells #[.int .i64 s.kind, .slice L s.labels.length lc, .slice A s.args.length ac] 27)).alloc (.cells #[.int .i64 4, .string nm, .int .i64 n0, .slice B ts.length bc] 30)).alloc (.cells #[.int .i64 0, .slice none 0 0, .slice none 0 0, .int .i64 0] 60)).heap.size from fun b hb => hb.elim (fun hb => Nat.lt_of_lt_of_le (hN b hb) hb0.size) (fun e => e ▸ zz0.lt))
  have HU0 := Lib.hid (hU.below hb0)
  have HJ0 := Lib.hid (hJ.below hb0)
  obtain ⟨hug, huc, ua, rfl⟩ := hU
  have HR := Lib.hid hr
  have HB0 := Lib.hid hb0
  have HZ0 := Lib.hid zz0
  have HP0 := Lib.hid p0
  have HQ0 := Lib.hid q0
  have HZZ := Lib.hid hz
  have HFO := Lib.hid hf
  have HOW := Lib.hid ho
  clear hv hN hr hJ hug huc ho hb0 zz0 p0 q0 hs0 hz hf
  go_enter Tryz.func98, Tryz.ntmps98
  go_upto_region 1 with fail
  generalize ((w.alloc (.cells #[.int .i64 s.kind, .slice L s.labels.length lc, .slice A s.args.length ac] 27)).alloc (.cells #[.int .i64 4, .string nm, .int .i64 n0, .slice B ts.length bc] 30)).alloc (.cells #[.int .i64 0, .slice none 0 0, .slice none 0 0, .int .i64 0] 60) = w0 at *
  have sp0 : w0.cell? ⟨w.heap.size, 0, none⟩ = some (.int .i64 s.kind) := HP0.out.cell 0
  have sp1 : w0.cell? ⟨w.heap.size, 1, none⟩ = some (.slice L s.labels.length lc) := HP0.out.cell 1
  have sp2 : w0.cell? ⟨w.heap.size, 2, none⟩ = some (.slice A s.args.length ac) := HP0.out.cell 2
  have qo0 : w0.cell? ⟨w.heap.size + 1, 0, none⟩ = some (.int .i64 4) := HQ0.out.cell 0
  have qo1 : w0.cell? ⟨w.heap.size + 1, 1, none⟩ = some (.string nm) := HQ0.out.cell 1
  have qo2 : w0.cell? ⟨w.heap.size + 1, 2, none⟩ = some (.int .i64 n0) := HQ0.out.cell 2
  have qo3 : w0.cell? ⟨w.heap.size + 1, 3, none⟩ = some (.slice B ts.length bc) := HQ0.out.cell 3
  have HC := Lib.hid (typElements_any (N := fun b => N b ∨ b = w.heap.size + 1 + 1) (u := (.iface 195 (.pointer (some ua)))) (r := r) s _ 5 w0 HN0.out HU0.out HV0.out hval (HR.out.trans (by simp [leafO])))
  clear hval hse hnm
  go_wp2_with fail
  refine HC.out.mono ?_
  rintro e w1 ⟨L1, lc1, A1, ac1, t1, k1, x1, rfl, hv1, hb1, hs1, hor1⟩
  have HF := Lib.hid (fun a b c d => typ_fin (r := r) (show w.heap.size ≤ w.heap.size + 1 + 1 by omega) (HB0.out.trans (hb1.mono HB0.out.size)) hv1 hs1 hor1 a b c d)
  have z1 := HZ0.out.below hb1 HZ0.out.lt
  have d0 : w1.cell? ⟨w.heap.size + 1 + 1, 0, none⟩ = some (.int .i64 0) := z1.cell 0
  have df0 : w1.frozen? ⟨w.heap.size + 1 + 1, 0, none⟩ = false := z1.free 0
  have d1 : w1.cell? ⟨w.heap.size + 1 + 1, 1, none⟩ = some (.slice none 0 0) := z1.cell 1
  have df1 : w1.frozen? ⟨w.heap.size + 1 + 1, 1, none⟩ = false := z1.free 1
  have d2 : w1.cell? ⟨w.heap.size + 1 + 1, 2, none⟩ = some (.slice none 0 0) := z1.cell 2
  have df2 : w1.frozen? ⟨w.heap.size + 1 + 1, 2, none⟩ = false := z1.free 2
  have d3 : w1.cell? ⟨w.heap.size + 1 + 1, 3, none⟩ = some (.int .i64 0) := z1.cell 3
  have df3 : w1.frozen? ⟨w.heap.size + 1 + 1, 3, none⟩ = false := z1.free 3
  clear hv1 hs1 hor1 hb1 z1 HC sp0 sp1 sp2 qo0 qo1 qo2 qo3
  go_wp2
  exact bodyPost_ret (v := .tuple #[.agg #[.int .i64 t1.kind, .slice L1 t1.labels.length lc1, .slice A1 t1.args.length ac1, .int .i64 k1], x1]) (by simp [results, Tryz.results98, go_sem, d0, d1, d2, d3]) rfl (HF.out _ _ _ _)

set_option maxHeartbeats 4000000 in
theorem typKind_all (n0 : Int) (nm : ByteArray) (ts : List Ot) (B : Option Addr) (bc : Nat) {N : Nat → Prop} {u : Value} {r : Option (Ty × Int)} (s : Ty) (sv : Value) (w : World) (hN : ∀ b, N b → b < w.heap.size) (hU : UnfitAt w u) (hJ : JoinsAt w) (hv : OwnA N w sv s) (ho : OtAt w w.heap.size (.agg #[.int .i64 5, .string nm, .int .i64 n0, .slice B ts.length bc]) (.mk 5 n0 nm ts)) (hval : validB s = true) (hf : formOt (.mk 5 n0 nm ts) = true) (hz : szOt (.mk 5 n0 nm ts) ≤ 1048576) (hr : r = leafO 5 nm s) :
    Calls Tryz.prog 98 #[sv, .agg #[.int .i64 5, .string nm, .int .i64 n0, .slice B ts.length bc]] w (TypPost N u r w) := by
  have hnm := form_name hf
  have hse := szTy_valid hval
  obtain ⟨L, lc, A, ac, rfl⟩ := hv.open
  obtain ⟨hb0, p0, q0, zz0, hs0⟩ := boxes3 w 27 30 60 #[.int .i64 s.kind, .slice L s.labels.length lc, .slice A s.args.length ac] #[.int .i64 5, .string nm, .int .i64 n0, .slice B ts.length bc] #[.int .i64 0, .slice none 0 0, .slice none 0 0, .int .i64 0]
  have HV0 := Lib.hid ((hv.late (w.heap.size + 1 + 1) (by omega)).up hb0)
  have HO0 := Lib.hid (ho.up hb0)
  have HN0 := Lib.hid (show ∀ b, (N b ∨ b = w.heap.size + 1 + 1) → b < (((w.alloc (.cells #[.int .i64 s.kind, .slice L s.labels.length lc, .slice A s.args.length ac] 27)).alloc (.cells #[.int .i64 5, .string nm, .int .i64 n0, .slice B ts.length bc] 30)).alloc (.cells #[.int .i64 0, .slice none 0 0, .slice none 0 0, .int .i64 0] 60)).heap.size from fun b hb => hb.elim (fun hb => Nat.lt_of_lt_of_le (hN b hb) hb0.size) (fun e => e ▸ zz0.lt))
  have HU0 := Lib.hid (hU.below hb0)
  have HJ0 := Lib.hid (hJ.below hb0)
  obtain ⟨hug, huc, ua, rfl⟩ := hU
  have HR := Lib.hid hr
  have HB0 := Lib.hid hb0
  have HZ0 := Lib.hid zz0
  have HP0 := Lib.hid p0
  have HQ0 := Lib.hid q0
  have HZZ := Lib.hid hz
  have HFO := Lib.hid hf
  have HOW := Lib.hid ho
  clear hv hN hr hJ hug huc ho hb0 zz0 p0 q0 hs0 hz hf
  go_enter Tryz.func98, Tryz.ntmps98
  go_upto_region 1 with fail
  generalize ((w.alloc (.cells #[.int .i64 s.kind, .slice L s.labels.length lc, .slice A s.args.length ac] 27)).alloc (.cells #[.int .i64 5, .string nm, .int .i64 n0, .slice B ts.length bc] 30)).alloc (.cells #[.int .i64 0, .slice none 0 0, .slice none 0 0, .int .i64 0] 60) = w0 at *
  have sp0 : w0.cell? ⟨w.heap.size, 0, none⟩ = some (.int .i64 s.kind) := HP0.out.cell 0
  have sp1 : w0.cell? ⟨w.heap.size, 1, none⟩ = some (.slice L s.labels.length lc) := HP0.out.cell 1
  have sp2 : w0.cell? ⟨w.heap.size, 2, none⟩ = some (.slice A s.args.length ac) := HP0.out.cell 2
  have qo0 : w0.cell? ⟨w.heap.size + 1, 0, none⟩ = some (.int .i64 5) := HQ0.out.cell 0
  have qo1 : w0.cell? ⟨w.heap.size + 1, 1, none⟩ = some (.string nm) := HQ0.out.cell 1
  have qo2 : w0.cell? ⟨w.heap.size + 1, 2, none⟩ = some (.int .i64 n0) := HQ0.out.cell 2
  have qo3 : w0.cell? ⟨w.heap.size + 1, 3, none⟩ = some (.slice B ts.length bc) := HQ0.out.cell 3
  have HC := Lib.hid (typFields_any (N := fun b => N b ∨ b = w.heap.size + 1 + 1) (u := (.iface 195 (.pointer (some ua)))) (r := r) s _ w0 HN0.out HU0.out HV0.out hval (HR.out.trans (by simp [leafO])))
  clear hval hse hnm
  go_wp2_with fail
  refine HC.out.mono ?_
  rintro e w1 ⟨L1, lc1, A1, ac1, t1, k1, x1, rfl, hv1, hb1, hs1, hor1⟩
  have HF := Lib.hid (fun a b c d => typ_fin (r := r) (show w.heap.size ≤ w.heap.size + 1 + 1 by omega) (HB0.out.trans (hb1.mono HB0.out.size)) hv1 hs1 hor1 a b c d)
  have z1 := HZ0.out.below hb1 HZ0.out.lt
  have d0 : w1.cell? ⟨w.heap.size + 1 + 1, 0, none⟩ = some (.int .i64 0) := z1.cell 0
  have df0 : w1.frozen? ⟨w.heap.size + 1 + 1, 0, none⟩ = false := z1.free 0
  have d1 : w1.cell? ⟨w.heap.size + 1 + 1, 1, none⟩ = some (.slice none 0 0) := z1.cell 1
  have df1 : w1.frozen? ⟨w.heap.size + 1 + 1, 1, none⟩ = false := z1.free 1
  have d2 : w1.cell? ⟨w.heap.size + 1 + 1, 2, none⟩ = some (.slice none 0 0) := z1.cell 2
  have df2 : w1.frozen? ⟨w.heap.size + 1 + 1, 2, none⟩ = false := z1.free 2
  have d3 : w1.cell? ⟨w.heap.size + 1 + 1, 3, none⟩ = some (.int .i64 0) := z1.cell 3
  have df3 : w1.frozen? ⟨w.heap.size + 1 + 1, 3, none⟩ = false := z1.free 3
  clear hv1 hs1 hor1 hb1 z1 HC sp0 sp1 sp2 qo0 qo1 qo2 qo3
  go_wp2
  exact bodyPost_ret (v := .tuple #[.agg #[.int .i64 t1.kind, .slice L1 t1.labels.length lc1, .slice A1 t1.args.length ac1, .int .i64 k1], x1]) (by simp [results, Tryz.results98, go_sem, d0, d1, d2, d3]) rfl (HF.out _ _ _ _)

set_option maxHeartbeats 4000000 in
theorem typKind_at (n0 : Int) (nm : ByteArray) (ts : List Ot) (B : Option Addr) (bc : Nat) {N : Nat → Prop} {u : Value} {r : Option (Ty × Int)} (s : Ty) (sv : Value) (w : World) (hN : ∀ b, N b → b < w.heap.size) (hU : UnfitAt w u) (hJ : JoinsAt w) (hv : OwnA N w sv s) (ho : OtAt w w.heap.size (.agg #[.int .i64 6, .string nm, .int .i64 n0, .slice B ts.length bc]) (.mk 6 n0 nm ts)) (hval : validB s = true) (hf : formOt (.mk 6 n0 nm ts) = true) (hz : szOt (.mk 6 n0 nm ts) ≤ 1048576) (hr : r = leafO 6 nm s) :
    Calls Tryz.prog 98 #[sv, .agg #[.int .i64 6, .string nm, .int .i64 n0, .slice B ts.length bc]] w (TypPost N u r w) := by
  have hnm := form_name hf
  have hse := szTy_valid hval
  obtain ⟨L, lc, A, ac, rfl⟩ := hv.open
  obtain ⟨hb0, p0, q0, zz0, hs0⟩ := boxes3 w 27 30 60 #[.int .i64 s.kind, .slice L s.labels.length lc, .slice A s.args.length ac] #[.int .i64 6, .string nm, .int .i64 n0, .slice B ts.length bc] #[.int .i64 0, .slice none 0 0, .slice none 0 0, .int .i64 0]
  have HV0 := Lib.hid ((hv.late (w.heap.size + 1 + 1) (by omega)).up hb0)
  have HO0 := Lib.hid (ho.up hb0)
  have HN0 := Lib.hid (show ∀ b, (N b ∨ b = w.heap.size + 1 + 1) → b < (((w.alloc (.cells #[.int .i64 s.kind, .slice L s.labels.length lc, .slice A s.args.length ac] 27)).alloc (.cells #[.int .i64 6, .string nm, .int .i64 n0, .slice B ts.length bc] 30)).alloc (.cells #[.int .i64 0, .slice none 0 0, .slice none 0 0, .int .i64 0] 60)).heap.size from fun b hb => hb.elim (fun hb => Nat.lt_of_lt_of_le (hN b hb) hb0.size) (fun e => e ▸ zz0.lt))
  have HU0 := Lib.hid (hU.below hb0)
  have HJ0 := Lib.hid (hJ.below hb0)
  obtain ⟨hug, huc, ua, rfl⟩ := hU
  have HR := Lib.hid hr
  have HB0 := Lib.hid hb0
  have HZ0 := Lib.hid zz0
  have HP0 := Lib.hid p0
  have HQ0 := Lib.hid q0
  have HZZ := Lib.hid hz
  have HFO := Lib.hid hf
  have HOW := Lib.hid ho
  clear hv hN hr hJ hug huc ho hb0 zz0 p0 q0 hs0 hz hf
  go_enter Tryz.func98, Tryz.ntmps98
  go_upto_region 1 with fail
  generalize ((w.alloc (.cells #[.int .i64 s.kind, .slice L s.labels.length lc, .slice A s.args.length ac] 27)).alloc (.cells #[.int .i64 6, .string nm, .int .i64 n0, .slice B ts.length bc] 30)).alloc (.cells #[.int .i64 0, .slice none 0 0, .slice none 0 0, .int .i64 0] 60) = w0 at *
  have sp0 : w0.cell? ⟨w.heap.size, 0, none⟩ = some (.int .i64 s.kind) := HP0.out.cell 0
  have sp1 : w0.cell? ⟨w.heap.size, 1, none⟩ = some (.slice L s.labels.length lc) := HP0.out.cell 1
  have sp2 : w0.cell? ⟨w.heap.size, 2, none⟩ = some (.slice A s.args.length ac) := HP0.out.cell 2
  have qo0 : w0.cell? ⟨w.heap.size + 1, 0, none⟩ = some (.int .i64 6) := HQ0.out.cell 0
  have qo1 : w0.cell? ⟨w.heap.size + 1, 1, none⟩ = some (.string nm) := HQ0.out.cell 1
  have qo2 : w0.cell? ⟨w.heap.size + 1, 2, none⟩ = some (.int .i64 n0) := HQ0.out.cell 2
  have qo3 : w0.cell? ⟨w.heap.size + 1, 3, none⟩ = some (.slice B ts.length bc) := HQ0.out.cell 3
  have HC := Lib.hid (typElements_any (N := fun b => N b ∨ b = w.heap.size + 1 + 1) (u := (.iface 195 (.pointer (some ua)))) (r := r) s _ 4 w0 HN0.out HU0.out HV0.out hval (HR.out.trans (by simp [leafO])))
  clear hval hse hnm
  go_wp2_with fail
  refine HC.out.mono ?_
  rintro e w1 ⟨L1, lc1, A1, ac1, t1, k1, x1, rfl, hv1, hb1, hs1, hor1⟩
  have HF := Lib.hid (fun a b c d => typ_fin (r := r) (show w.heap.size ≤ w.heap.size + 1 + 1 by omega) (HB0.out.trans (hb1.mono HB0.out.size)) hv1 hs1 hor1 a b c d)
  have z1 := HZ0.out.below hb1 HZ0.out.lt
  have d0 : w1.cell? ⟨w.heap.size + 1 + 1, 0, none⟩ = some (.int .i64 0) := z1.cell 0
  have df0 : w1.frozen? ⟨w.heap.size + 1 + 1, 0, none⟩ = false := z1.free 0
  have d1 : w1.cell? ⟨w.heap.size + 1 + 1, 1, none⟩ = some (.slice none 0 0) := z1.cell 1
  have df1 : w1.frozen? ⟨w.heap.size + 1 + 1, 1, none⟩ = false := z1.free 1
  have d2 : w1.cell? ⟨w.heap.size + 1 + 1, 2, none⟩ = some (.slice none 0 0) := z1.cell 2
  have df2 : w1.frozen? ⟨w.heap.size + 1 + 1, 2, none⟩ = false := z1.free 2
  have d3 : w1.cell? ⟨w.heap.size + 1 + 1, 3, none⟩ = some (.int .i64 0) := z1.cell 3
  have df3 : w1.frozen? ⟨w.heap.size + 1 + 1, 3, none⟩ = false := z1.free 3
  clear hv1 hs1 hor1 hb1 z1 HC sp0 sp1 sp2 qo0 qo1 qo2 qo3
  go_wp2
  exact bodyPost_ret (v := .tuple #[.agg #[.int .i64 t1.kind, .slice L1 t1.labels.length lc1, .slice A1 t1.args.length ac1, .int .i64 k1], x1]) (by simp [results, Tryz.results98, go_sem, d0, d1, d2, d3]) rfl (HF.out _ _ _ _)

set_option maxHeartbeats 4000000 in
theorem typKind_add (n0 : Int) (nm : ByteArray) (ts : List Ot) (B : Option Addr) (bc : Nat) {N : Nat → Prop} {u : Value} {r : Option (Ty × Int)} (s : Ty) (sv : Value) (w : World) (hN : ∀ b, N b → b < w.heap.size) (hU : UnfitAt w u) (hJ : JoinsAt w) (hv : OwnA N w sv s) (ho : OtAt w w.heap.size (.agg #[.int .i64 7, .string nm, .int .i64 n0, .slice B ts.length bc]) (.mk 7 n0 nm ts)) (hval : validB s = true) (hf : formOt (.mk 7 n0 nm ts) = true) (hz : szOt (.mk 7 n0 nm ts) ≤ 1048576) (hr : r = leafO 7 nm s) :
    Calls Tryz.prog 98 #[sv, .agg #[.int .i64 7, .string nm, .int .i64 n0, .slice B ts.length bc]] w (TypPost N u r w) := by
  have hnm := form_name hf
  have hse := szTy_valid hval
  obtain ⟨L, lc, A, ac, rfl⟩ := hv.open
  obtain ⟨hb0, p0, q0, zz0, hs0⟩ := boxes3 w 27 30 60 #[.int .i64 s.kind, .slice L s.labels.length lc, .slice A s.args.length ac] #[.int .i64 7, .string nm, .int .i64 n0, .slice B ts.length bc] #[.int .i64 0, .slice none 0 0, .slice none 0 0, .int .i64 0]
  have HV0 := Lib.hid ((hv.late (w.heap.size + 1 + 1) (by omega)).up hb0)
  have HO0 := Lib.hid (ho.up hb0)
  have HN0 := Lib.hid (show ∀ b, (N b ∨ b = w.heap.size + 1 + 1) → b < (((w.alloc (.cells #[.int .i64 s.kind, .slice L s.labels.length lc, .slice A s.args.length ac] 27)).alloc (.cells #[.int .i64 7, .string nm, .int .i64 n0, .slice B ts.length bc] 30)).alloc (.cells #[.int .i64 0, .slice none 0 0, .slice none 0 0, .int .i64 0] 60)).heap.size from fun b hb => hb.elim (fun hb => Nat.lt_of_lt_of_le (hN b hb) hb0.size) (fun e => e ▸ zz0.lt))
  have HU0 := Lib.hid (hU.below hb0)
  have HJ0 := Lib.hid (hJ.below hb0)
  obtain ⟨hug, huc, ua, rfl⟩ := hU
  have HR := Lib.hid hr
  have HB0 := Lib.hid hb0
  have HZ0 := Lib.hid zz0
  have HP0 := Lib.hid p0
  have HQ0 := Lib.hid q0
  have HZZ := Lib.hid hz
  have HFO := Lib.hid hf
  have HOW := Lib.hid ho
  clear hv hN hr hJ hug huc ho hb0 zz0 p0 q0 hs0 hz hf
  go_enter Tryz.func98, Tryz.ntmps98
  go_upto_region 1 with fail
  generalize ((w.alloc (.cells #[.int .i64 s.kind, .slice L s.labels.length lc, .slice A s.args.length ac] 27)).alloc (.cells #[.int .i64 7, .string nm, .int .i64 n0, .slice B ts.length bc] 30)).alloc (.cells #[.int .i64 0, .slice none 0 0, .slice none 0 0, .int .i64 0] 60) = w0 at *
  have sp0 : w0.cell? ⟨w.heap.size, 0, none⟩ = some (.int .i64 s.kind) := HP0.out.cell 0
  have sp1 : w0.cell? ⟨w.heap.size, 1, none⟩ = some (.slice L s.labels.length lc) := HP0.out.cell 1
  have sp2 : w0.cell? ⟨w.heap.size, 2, none⟩ = some (.slice A s.args.length ac) := HP0.out.cell 2
  have qo0 : w0.cell? ⟨w.heap.size + 1, 0, none⟩ = some (.int .i64 7) := HQ0.out.cell 0
  have qo1 : w0.cell? ⟨w.heap.size + 1, 1, none⟩ = some (.string nm) := HQ0.out.cell 1
  have qo2 : w0.cell? ⟨w.heap.size + 1, 2, none⟩ = some (.int .i64 n0) := HQ0.out.cell 2
  have qo3 : w0.cell? ⟨w.heap.size + 1, 3, none⟩ = some (.slice B ts.length bc) := HQ0.out.cell 3
  have HC := Lib.hid (typChange_any (N := fun b => N b ∨ b = w.heap.size + 1 + 1) (u := (.iface 195 (.pointer (some ua)))) (r := r) s _ 1 w0 HN0.out HU0.out HV0.out hval (HR.out.trans (by simp [leafO])))
  clear hval hse hnm
  go_wp2_with fail
  refine HC.out.mono ?_
  rintro e w1 ⟨L1, lc1, A1, ac1, t1, k1, x1, rfl, hv1, hb1, hs1, hor1⟩
  have HF := Lib.hid (fun a b c d => typ_fin (r := r) (show w.heap.size ≤ w.heap.size + 1 + 1 by omega) (HB0.out.trans (hb1.mono HB0.out.size)) hv1 hs1 hor1 a b c d)
  have z1 := HZ0.out.below hb1 HZ0.out.lt
  have d0 : w1.cell? ⟨w.heap.size + 1 + 1, 0, none⟩ = some (.int .i64 0) := z1.cell 0
  have df0 : w1.frozen? ⟨w.heap.size + 1 + 1, 0, none⟩ = false := z1.free 0
  have d1 : w1.cell? ⟨w.heap.size + 1 + 1, 1, none⟩ = some (.slice none 0 0) := z1.cell 1
  have df1 : w1.frozen? ⟨w.heap.size + 1 + 1, 1, none⟩ = false := z1.free 1
  have d2 : w1.cell? ⟨w.heap.size + 1 + 1, 2, none⟩ = some (.slice none 0 0) := z1.cell 2
  have df2 : w1.frozen? ⟨w.heap.size + 1 + 1, 2, none⟩ = false := z1.free 2
  have d3 : w1.cell? ⟨w.heap.size + 1 + 1, 3, none⟩ = some (.int .i64 0) := z1.cell 3
  have df3 : w1.frozen? ⟨w.heap.size + 1 + 1, 3, none⟩ = false := z1.free 3
  clear hv1 hs1 hor1 hb1 z1 HC sp0 sp1 sp2 qo0 qo1 qo2 qo3
  go_wp2
  exact bodyPost_ret (v := .tuple #[.agg #[.int .i64 t1.kind, .slice L1 t1.labels.length lc1, .slice A1 t1.args.length ac1, .int .i64 k1], x1]) (by simp [results, Tryz.results98, go_sem, d0, d1, d2, d3]) rfl (HF.out _ _ _ _)

set_option maxHeartbeats 4000000 in
theorem typKind_not (n0 : Int) (nm : ByteArray) (ts : List Ot) (B : Option Addr) (bc : Nat) {N : Nat → Prop} {u : Value} {r : Option (Ty × Int)} (s : Ty) (sv : Value) (w : World) (hN : ∀ b, N b → b < w.heap.size) (hU : UnfitAt w u) (hJ : JoinsAt w) (hv : OwnA N w sv s) (ho : OtAt w w.heap.size (.agg #[.int .i64 8, .string nm, .int .i64 n0, .slice B ts.length bc]) (.mk 8 n0 nm ts)) (hval : validB s = true) (hf : formOt (.mk 8 n0 nm ts) = true) (hz : szOt (.mk 8 n0 nm ts) ≤ 1048576) (hr : r = leafO 8 nm s) :
    Calls Tryz.prog 98 #[sv, .agg #[.int .i64 8, .string nm, .int .i64 n0, .slice B ts.length bc]] w (TypPost N u r w) := by
  have hnm := form_name hf
  have hse := szTy_valid hval
  obtain ⟨L, lc, A, ac, rfl⟩ := hv.open
  obtain ⟨hb0, p0, q0, zz0, hs0⟩ := boxes3 w 27 30 60 #[.int .i64 s.kind, .slice L s.labels.length lc, .slice A s.args.length ac] #[.int .i64 8, .string nm, .int .i64 n0, .slice B ts.length bc] #[.int .i64 0, .slice none 0 0, .slice none 0 0, .int .i64 0]
  have HV0 := Lib.hid ((hv.late (w.heap.size + 1 + 1) (by omega)).up hb0)
  have HO0 := Lib.hid (ho.up hb0)
  have HN0 := Lib.hid (show ∀ b, (N b ∨ b = w.heap.size + 1 + 1) → b < (((w.alloc (.cells #[.int .i64 s.kind, .slice L s.labels.length lc, .slice A s.args.length ac] 27)).alloc (.cells #[.int .i64 8, .string nm, .int .i64 n0, .slice B ts.length bc] 30)).alloc (.cells #[.int .i64 0, .slice none 0 0, .slice none 0 0, .int .i64 0] 60)).heap.size from fun b hb => hb.elim (fun hb => Nat.lt_of_lt_of_le (hN b hb) hb0.size) (fun e => e ▸ zz0.lt))
  have HU0 := Lib.hid (hU.below hb0)
  have HJ0 := Lib.hid (hJ.below hb0)
  obtain ⟨hug, huc, ua, rfl⟩ := hU
  have HR := Lib.hid hr
  have HB0 := Lib.hid hb0
  have HZ0 := Lib.hid zz0
  have HP0 := Lib.hid p0
  have HQ0 := Lib.hid q0
  have HZZ := Lib.hid hz
  have HFO := Lib.hid hf
  have HOW := Lib.hid ho
  clear hv hN hr hJ hug huc ho hb0 zz0 p0 q0 hs0 hz hf
  go_enter Tryz.func98, Tryz.ntmps98
  go_upto_region 1 with fail
  generalize ((w.alloc (.cells #[.int .i64 s.kind, .slice L s.labels.length lc, .slice A s.args.length ac] 27)).alloc (.cells #[.int .i64 8, .string nm, .int .i64 n0, .slice B ts.length bc] 30)).alloc (.cells #[.int .i64 0, .slice none 0 0, .slice none 0 0, .int .i64 0] 60) = w0 at *
  have sp0 : w0.cell? ⟨w.heap.size, 0, none⟩ = some (.int .i64 s.kind) := HP0.out.cell 0
  have sp1 : w0.cell? ⟨w.heap.size, 1, none⟩ = some (.slice L s.labels.length lc) := HP0.out.cell 1
  have sp2 : w0.cell? ⟨w.heap.size, 2, none⟩ = some (.slice A s.args.length ac) := HP0.out.cell 2
  have qo0 : w0.cell? ⟨w.heap.size + 1, 0, none⟩ = some (.int .i64 8) := HQ0.out.cell 0
  have qo1 : w0.cell? ⟨w.heap.size + 1, 1, none⟩ = some (.string nm) := HQ0.out.cell 1
  have qo2 : w0.cell? ⟨w.heap.size + 1, 2, none⟩ = some (.int .i64 n0) := HQ0.out.cell 2
  have qo3 : w0.cell? ⟨w.heap.size + 1, 3, none⟩ = some (.slice B ts.length bc) := HQ0.out.cell 3
  have HC := Lib.hid (typChange_any (N := fun b => N b ∨ b = w.heap.size + 1 + 1) (u := (.iface 195 (.pointer (some ua)))) (r := r) s _ 2 w0 HN0.out HU0.out HV0.out hval (HR.out.trans (by simp [leafO])))
  clear hval hse hnm
  go_wp2_with fail
  refine HC.out.mono ?_
  rintro e w1 ⟨L1, lc1, A1, ac1, t1, k1, x1, rfl, hv1, hb1, hs1, hor1⟩
  have HF := Lib.hid (fun a b c d => typ_fin (r := r) (show w.heap.size ≤ w.heap.size + 1 + 1 by omega) (HB0.out.trans (hb1.mono HB0.out.size)) hv1 hs1 hor1 a b c d)
  have z1 := HZ0.out.below hb1 HZ0.out.lt
  have d0 : w1.cell? ⟨w.heap.size + 1 + 1, 0, none⟩ = some (.int .i64 0) := z1.cell 0
  have df0 : w1.frozen? ⟨w.heap.size + 1 + 1, 0, none⟩ = false := z1.free 0
  have d1 : w1.cell? ⟨w.heap.size + 1 + 1, 1, none⟩ = some (.slice none 0 0) := z1.cell 1
  have df1 : w1.frozen? ⟨w.heap.size + 1 + 1, 1, none⟩ = false := z1.free 1
  have d2 : w1.cell? ⟨w.heap.size + 1 + 1, 2, none⟩ = some (.slice none 0 0) := z1.cell 2
  have df2 : w1.frozen? ⟨w.heap.size + 1 + 1, 2, none⟩ = false := z1.free 2
  have d3 : w1.cell? ⟨w.heap.size + 1 + 1, 3, none⟩ = some (.int .i64 0) := z1.cell 3
  have df3 : w1.frozen? ⟨w.heap.size + 1 + 1, 3, none⟩ = false := z1.free 3
  clear hv1 hs1 hor1 hb1 z1 HC sp0 sp1 sp2 qo0 qo1 qo2 qo3
  go_wp2
  exact bodyPost_ret (v := .tuple #[.agg #[.int .i64 t1.kind, .slice L1 t1.labels.length lc1, .slice A1 t1.args.length ac1, .int .i64 k1], x1]) (by simp [results, Tryz.results98, go_sem, d0, d1, d2, d3]) rfl (HF.out _ _ _ _)

set_option maxHeartbeats 4000000 in
theorem typKind_rev (n0 : Int) (nm : ByteArray) (ts : List Ot) (B : Option Addr) (bc : Nat) {N : Nat → Prop} {u : Value} {r : Option (Ty × Int)} (s : Ty) (sv : Value) (w : World) (hN : ∀ b, N b → b < w.heap.size) (hU : UnfitAt w u) (hJ : JoinsAt w) (hv : OwnA N w sv s) (ho : OtAt w w.heap.size (.agg #[.int .i64 9, .string nm, .int .i64 n0, .slice B ts.length bc]) (.mk 9 n0 nm ts)) (hval : validB s = true) (hf : formOt (.mk 9 n0 nm ts) = true) (hz : szOt (.mk 9 n0 nm ts) ≤ 1048576) (hr : r = leafO 9 nm s) :
    Calls Tryz.prog 98 #[sv, .agg #[.int .i64 9, .string nm, .int .i64 n0, .slice B ts.length bc]] w (TypPost N u r w) := by
  have hnm := form_name hf
  have hse := szTy_valid hval
  obtain ⟨L, lc, A, ac, rfl⟩ := hv.open
  obtain ⟨hb0, p0, q0, zz0, hs0⟩ := boxes3 w 27 30 60 #[.int .i64 s.kind, .slice L s.labels.length lc, .slice A s.args.length ac] #[.int .i64 9, .string nm, .int .i64 n0, .slice B ts.length bc] #[.int .i64 0, .slice none 0 0, .slice none 0 0, .int .i64 0]
  have HV0 := Lib.hid ((hv.late (w.heap.size + 1 + 1) (by omega)).up hb0)
  have HO0 := Lib.hid (ho.up hb0)
  have HN0 := Lib.hid (show ∀ b, (N b ∨ b = w.heap.size + 1 + 1) → b < (((w.alloc (.cells #[.int .i64 s.kind, .slice L s.labels.length lc, .slice A s.args.length ac] 27)).alloc (.cells #[.int .i64 9, .string nm, .int .i64 n0, .slice B ts.length bc] 30)).alloc (.cells #[.int .i64 0, .slice none 0 0, .slice none 0 0, .int .i64 0] 60)).heap.size from fun b hb => hb.elim (fun hb => Nat.lt_of_lt_of_le (hN b hb) hb0.size) (fun e => e ▸ zz0.lt))
  have HU0 := Lib.hid (hU.below hb0)
  have HJ0 := Lib.hid (hJ.below hb0)
  obtain ⟨hug, huc, ua, rfl⟩ := hU
  have HR := Lib.hid hr
  have HB0 := Lib.hid hb0
  have HZ0 := Lib.hid zz0
  have HP0 := Lib.hid p0
  have HQ0 := Lib.hid q0
  have HZZ := Lib.hid hz
  have HFO := Lib.hid hf
  have HOW := Lib.hid ho
  clear hv hN hr hJ hug huc ho hb0 zz0 p0 q0 hs0 hz hf
  go_enter Tryz.func98, Tryz.ntmps98
  go_upto_region 1 with fail
  generalize ((w.alloc (.cells #[.int .i64 s.kind, .slice L s.labels.length lc, .slice A s.args.length ac] 27)).alloc (.cells #[.int .i64 9, .string nm, .int .i64 n0, .slice B ts.length bc] 30)).alloc (.cells #[.int .i64 0, .slice none 0 0, .slice none 0 0, .int .i64 0] 60) = w0 at *
  have sp0 : w0.cell? ⟨w.heap.size, 0, none⟩ = some (.int .i64 s.kind) := HP0.out.cell 0
  have sp1 : w0.cell? ⟨w.heap.size, 1, none⟩ = some (.slice L s.labels.length lc) := HP0.out.cell 1
  have sp2 : w0.cell? ⟨w.heap.size, 2, none⟩ = some (.slice A s.args.length ac) := HP0.out.cell 2
  have qo0 : w0.cell? ⟨w.heap.size + 1, 0, none⟩ = some (.int .i64 9) := HQ0.out.cell 0
  have qo1 : w0.cell? ⟨w.heap.size + 1, 1, none⟩ = some (.string nm) := HQ0.out.cell 1
  have qo2 : w0.cell? ⟨w.heap.size + 1, 2, none⟩ = some (.int .i64 n0) := HQ0.out.cell 2
  have qo3 : w0.cell? ⟨w.heap.size + 1, 3, none⟩ = some (.slice B ts.length bc) := HQ0.out.cell 3
  have HC := Lib.hid (typChange_any (N := fun b => N b ∨ b = w.heap.size + 1 + 1) (u := (.iface 195 (.pointer (some ua)))) (r := r) s _ 5 w0 HN0.out HU0.out HV0.out hval (HR.out.trans (by simp [leafO])))
  clear hval hse hnm
  go_wp2_with fail
  refine HC.out.mono ?_
  rintro e w1 ⟨L1, lc1, A1, ac1, t1, k1, x1, rfl, hv1, hb1, hs1, hor1⟩
  have HF := Lib.hid (fun a b c d => typ_fin (r := r) (show w.heap.size ≤ w.heap.size + 1 + 1 by omega) (HB0.out.trans (hb1.mono HB0.out.size)) hv1 hs1 hor1 a b c d)
  have z1 := HZ0.out.below hb1 HZ0.out.lt
  have d0 : w1.cell? ⟨w.heap.size + 1 + 1, 0, none⟩ = some (.int .i64 0) := z1.cell 0
  have df0 : w1.frozen? ⟨w.heap.size + 1 + 1, 0, none⟩ = false := z1.free 0
  have d1 : w1.cell? ⟨w.heap.size + 1 + 1, 1, none⟩ = some (.slice none 0 0) := z1.cell 1
  have df1 : w1.frozen? ⟨w.heap.size + 1 + 1, 1, none⟩ = false := z1.free 1
  have d2 : w1.cell? ⟨w.heap.size + 1 + 1, 2, none⟩ = some (.slice none 0 0) := z1.cell 2
  have df2 : w1.frozen? ⟨w.heap.size + 1 + 1, 2, none⟩ = false := z1.free 2
  have d3 : w1.cell? ⟨w.heap.size + 1 + 1, 3, none⟩ = some (.int .i64 0) := z1.cell 3
  have df3 : w1.frozen? ⟨w.heap.size + 1 + 1, 3, none⟩ = false := z1.free 3
  clear hv1 hs1 hor1 hb1 z1 HC sp0 sp1 sp2 qo0 qo1 qo2 qo3
  go_wp2
  exact bodyPost_ret (v := .tuple #[.agg #[.int .i64 t1.kind, .slice L1 t1.labels.length lc1, .slice A1 t1.args.length ac1, .int .i64 k1], x1]) (by simp [results, Tryz.results98, go_sem, d0, d1, d2, d3]) rfl (HF.out _ _ _ _)

set_option maxHeartbeats 4000000 in
theorem typKind_wrap (n0 : Int) (nm : ByteArray) (ts : List Ot) (B : Option Addr) (bc : Nat) {N : Nat → Prop} {u : Value} {r : Option (Ty × Int)} (s : Ty) (sv : Value) (w : World) (hN : ∀ b, N b → b < w.heap.size) (hU : UnfitAt w u) (hJ : JoinsAt w) (hv : OwnA N w sv s) (ho : OtAt w w.heap.size (.agg #[.int .i64 10, .string nm, .int .i64 n0, .slice B ts.length bc]) (.mk 10 n0 nm ts)) (hval : validB s = true) (hf : formOt (.mk 10 n0 nm ts) = true) (hz : szOt (.mk 10 n0 nm ts) ≤ 1048576) (hr : r = leafO 10 nm s) :
    Calls Tryz.prog 98 #[sv, .agg #[.int .i64 10, .string nm, .int .i64 n0, .slice B ts.length bc]] w (TypPost N u r w) := by
  have hnm := form_name hf
  have hse := szTy_valid hval
  obtain ⟨L, lc, A, ac, rfl⟩ := hv.open
  obtain ⟨hb0, p0, q0, zz0, hs0⟩ := boxes3 w 27 30 60 #[.int .i64 s.kind, .slice L s.labels.length lc, .slice A s.args.length ac] #[.int .i64 10, .string nm, .int .i64 n0, .slice B ts.length bc] #[.int .i64 0, .slice none 0 0, .slice none 0 0, .int .i64 0]
  have HV0 := Lib.hid ((hv.late (w.heap.size + 1 + 1) (by omega)).up hb0)
  have HO0 := Lib.hid (ho.up hb0)
  have HN0 := Lib.hid (show ∀ b, (N b ∨ b = w.heap.size + 1 + 1) → b < (((w.alloc (.cells #[.int .i64 s.kind, .slice L s.labels.length lc, .slice A s.args.length ac] 27)).alloc (.cells #[.int .i64 10, .string nm, .int .i64 n0, .slice B ts.length bc] 30)).alloc (.cells #[.int .i64 0, .slice none 0 0, .slice none 0 0, .int .i64 0] 60)).heap.size from fun b hb => hb.elim (fun hb => Nat.lt_of_lt_of_le (hN b hb) hb0.size) (fun e => e ▸ zz0.lt))
  have HU0 := Lib.hid (hU.below hb0)
  have HJ0 := Lib.hid (hJ.below hb0)
  obtain ⟨hug, huc, ua, rfl⟩ := hU
  have HR := Lib.hid hr
  have HB0 := Lib.hid hb0
  have HZ0 := Lib.hid zz0
  have HP0 := Lib.hid p0
  have HQ0 := Lib.hid q0
  have HZZ := Lib.hid hz
  have HFO := Lib.hid hf
  have HOW := Lib.hid ho
  clear hv hN hr hJ hug huc ho hb0 zz0 p0 q0 hs0 hz hf
  go_enter Tryz.func98, Tryz.ntmps98
  go_upto_region 1 with fail
  generalize ((w.alloc (.cells #[.int .i64 s.kind, .slice L s.labels.length lc, .slice A s.args.length ac] 27)).alloc (.cells #[.int .i64 10, .string nm, .int .i64 n0, .slice B ts.length bc] 30)).alloc (.cells #[.int .i64 0, .slice none 0 0, .slice none 0 0, .int .i64 0] 60) = w0 at *
  have sp0 : w0.cell? ⟨w.heap.size, 0, none⟩ = some (.int .i64 s.kind) := HP0.out.cell 0
  have sp1 : w0.cell? ⟨w.heap.size, 1, none⟩ = some (.slice L s.labels.length lc) := HP0.out.cell 1
  have sp2 : w0.cell? ⟨w.heap.size, 2, none⟩ = some (.slice A s.args.length ac) := HP0.out.cell 2
  have qo0 : w0.cell? ⟨w.heap.size + 1, 0, none⟩ = some (.int .i64 10) := HQ0.out.cell 0
  have qo1 : w0.cell? ⟨w.heap.size + 1, 1, none⟩ = some (.string nm) := HQ0.out.cell 1
  have qo2 : w0.cell? ⟨w.heap.size + 1, 2, none⟩ = some (.int .i64 n0) := HQ0.out.cell 2
  have qo3 : w0.cell? ⟨w.heap.size + 1, 3, none⟩ = some (.slice B ts.length bc) := HQ0.out.cell 3
  have hst : szTy (Ty.mk 3 [nm] [s]) ≤ 2000 := by
    have h1 := szTy_eq (Ty.mk 3 [nm] [s])
    simp [Ty.labels, Ty.args, sumSizes, szTys] at h1
    omega
  obtain ⟨hb8, l8, r8, q8, hs8⟩ := boxes3 w0 9 27 27 #[.string nm] #[.int .i64 s.kind, .slice L s.labels.length lc, .slice A s.args.length ac] #[.int .i64 3, .slice (some ⟨w0.heap.size, 0, none⟩) 1 1, .slice (some ⟨w0.heap.size + 1, 0, none⟩) 1 1]
  have hown := wrap_own (lc := 1) (ac := 1) (k := 3) HV0.out HN0.out hb8 (Nat.le_refl _) (by omega) (by omega) (by unfold maxLen; omega) l8 r8
  have HF := Lib.hid (fun a b c d => typ_fin (r := r) (u := (.iface 195 (.pointer (some ua)))) (kd := 1) (show w.heap.size ≤ w.heap.size + 1 + 1 by omega) (HB0.out.trans (hb8.mono HB0.out.size)) hown hst (.inr ⟨HR.out.trans (by simp [leafO]), rfl⟩) a b c d)
  have z8 := HZ0.out.below hb8 HZ0.out.lt
  have d0 : (((w0.alloc (.cells #[.string nm] 9)).alloc (.cells #[.int .i64 s.kind, .slice L s.labels.length lc, .slice A s.args.length ac] 27)).alloc (.cells #[.int .i64 3, .slice (some ⟨w0.heap.size, 0, none⟩) 1 1, .slice (some ⟨w0.heap.size + 1, 0, none⟩) 1 1] 27)).cell? ⟨w.heap.size + 1 + 1, 0, none⟩ = some (.int .i64 0) := z8.cell 0
  have df0 : (((w0.alloc (.cells #[.string nm] 9)).alloc (.cells #[.int .i64 s.kind, .slice L s.labels.length lc, .slice A s.args.length ac] 27)).alloc (.cells #[.int .i64 3, .slice (some ⟨w0.heap.size, 0, none⟩) 1 1, .slice (some ⟨w0.heap.size + 1, 0, none⟩) 1 1] 27)).frozen? ⟨w.heap.size + 1 + 1, 0, none⟩ = false := z8.free 0
  have d1 : (((w0.alloc (.cells #[.string nm] 9)).alloc (.cells #[.int .i64 s.kind, .slice L s.labels.length lc, .slice A s.args.length ac] 27)).alloc (.cells #[.int .i64 3, .slice (some ⟨w0.heap.size, 0, none⟩) 1 1, .slice (some ⟨w0.heap.size + 1, 0, none⟩) 1 1] 27)).cell? ⟨w.heap.size + 1 + 1, 1, none⟩ = some (.slice none 0 0) := z8.cell 1
  have df1 : (((w0.alloc (.cells #[.string nm] 9)).alloc (.cells #[.int .i64 s.kind, .slice L s.labels.length lc, .slice A s.args.length ac] 27)).alloc (.cells #[.int .i64 3, .slice (some ⟨w0.heap.size, 0, none⟩) 1 1, .slice (some ⟨w0.heap.size + 1, 0, none⟩) 1 1] 27)).frozen? ⟨w.heap.size + 1 + 1, 1, none⟩ = false := z8.free 1
  have d2 : (((w0.alloc (.cells #[.string nm] 9)).alloc (.cells #[.int .i64 s.kind, .slice L s.labels.length lc, .slice A s.args.length ac] 27)).alloc (.cells #[.int .i64 3, .slice (some ⟨w0.heap.size, 0, none⟩) 1 1, .slice (some ⟨w0.heap.size + 1, 0, none⟩) 1 1] 27)).cell? ⟨w.heap.size + 1 + 1, 2, none⟩ = some (.slice none 0 0) := z8.cell 2
  have df2 : (((w0.alloc (.cells #[.string nm] 9)).alloc (.cells #[.int .i64 s.kind, .slice L s.labels.length lc, .slice A s.args.length ac] 27)).alloc (.cells #[.int .i64 3, .slice (some ⟨w0.heap.size, 0, none⟩) 1 1, .slice (some ⟨w0.heap.size + 1, 0, none⟩) 1 1] 27)).frozen? ⟨w.heap.size + 1 + 1, 2, none⟩ = false := z8.free 2
  have d3 : (((w0.alloc (.cells #[.string nm] 9)).alloc (.cells #[.int .i64 s.kind, .slice L s.labels.length lc, .slice A s.args.length ac] 27)).alloc (.cells #[.int .i64 3, .slice (some ⟨w0.heap.size, 0, none⟩) 1 1, .slice (some ⟨w0.heap.size + 1, 0, none⟩) 1 1] 27)).cell? ⟨w.heap.size + 1 + 1, 3, none⟩ = some (.int .i64 0) := z8.cell 3
  have df3 : (((w0.alloc (.cells #[.string nm] 9)).alloc (.cells #[.int .i64 s.kind, .slice L s.labels.length lc, .slice A s.args.length ac] 27)).alloc (.cells #[.int .i64 3, .slice (some ⟨w0.heap.size, 0, none⟩) 1 1, .slice (some ⟨w0.heap.size + 1, 0, none⟩) 1 1] 27)).frozen? ⟨w.heap.size + 1 + 1, 3, none⟩ = false := z8.free 3
  have hb9 := (Below.refl w0.heap.size w0).alloc (Nat.le_refl _) (.cells #[.string nm] 9)
  have sr0 : (w0.alloc (.cells #[.string nm] 9)).cell? ⟨w.heap.size, 0, none⟩ = some (.int .i64 s.kind) := (HP0.out.below hb9 HP0.out.lt).cell 0
  have sr1 : (w0.alloc (.cells #[.string nm] 9)).cell? ⟨w.heap.size, 1, none⟩ = some (.slice L s.labels.length lc) := (HP0.out.below hb9 HP0.out.lt).cell 1
  have sr2 : (w0.alloc (.cells #[.string nm] 9)).cell? ⟨w.heap.size, 2, none⟩ = some (.slice A s.args.length ac) := (HP0.out.below hb9 HP0.out.lt).cell 2
  clear hs8 hown l8 r8 q8 hb8 z8 hst hval hse hnm hb9
  go_wp2
  exact bodyPost_ret (v := .tuple #[.agg #[.int .i64 3, .slice (some ⟨w0.heap.size, 0, none⟩) 1 1, .slice (some ⟨w0.heap.size + 1, 0, none⟩) 1 1, .int .i64 1], .nilIface]) (by simp [results, Tryz.results98, go_sem, d0, d1, d2, d3]) rfl (HF.out _ _ _ _)

end Go.Proofs.YthdfidhijmcbdaaGreatDoor
end

section
namespace Go.Proofs.YthdfidhijmcbdaaGreatDoor
set_option maxRecDepth 100000
set_option linter.unusedSimpArgs false
open Go.RowKit
attribute [local go_sem ↓] Go.wp_at_zero Go.wp_at_succ

set_option maxHeartbeats 4000000 in
theorem typKind_map (o1 : Ot) (h1 : TypOne o1) (f1 : formOt o1 = true) (n0 : Int) (nm : ByteArray) (B : Option Addr) (bc : Nat) {N : Nat → Prop} {u : Value} {r : Option (Ty × Int)} (s : Ty) (sv : Value) (w : World) (hN : ∀ b, N b → b < w.heap.size) (hU : UnfitAt w u) (hJ : JoinsAt w) (hv : OwnA N w sv s) (ho : OtAt w w.heap.size (.agg #[.int .i64 11, .string nm, .int .i64 n0, .slice B 1 bc]) (.mk 11 n0 nm [o1])) (hval : validB s = true) (hf : formOt (.mk 11 n0 nm [o1]) = true) (hz : szOt (.mk 11 n0 nm [o1]) ≤ 1048576) (hr : r = mapO (typeO o1) s) :
    Calls Tryz.prog 98 #[sv, .agg #[.int .i64 11, .string nm, .int .i64 n0, .slice B 1 bc]] w (TypPost N u r w) := by
  have hnm := form_name hf
  have hse := szTy_valid hval
  obtain ⟨L, lc, A, ac, rfl⟩ := hv.open
  obtain ⟨hb0, p0, q0, zz0, hs0⟩ := boxes3 w 27 30 60 #[.int .i64 s.kind, .slice L s.labels.length lc, .slice A s.args.length ac] #[.int .i64 11, .string nm, .int .i64 n0, .slice B 1 bc] #[.int .i64 0, .slice none 0 0, .slice none 0 0, .int .i64 0]
  have HV0 := Lib.hid ((hv.late (w.heap.size + 1 + 1) (by omega)).up hb0)
  have HO0 := Lib.hid (ho.up hb0)
  have HN0 := Lib.hid (show ∀ b, (N b ∨ b = w.heap.size + 1 + 1) → b < (((w.alloc (.cells #[.int .i64 s.kind, .slice L s.labels.length lc, .slice A s.args.length ac] 27)).alloc (.cells #[.int .i64 11, .string nm, .int .i64 n0, .slice B 1 bc] 30)).alloc (.cells #[.int .i64 0, .slice none 0 0, .slice none 0 0, .int .i64 0] 60)).heap.size from fun b hb => hb.elim (fun hb => Nat.lt_of_lt_of_le (hN b hb) hb0.size) (fun e => e ▸ zz0.lt))
  have HU0 := Lib.hid (hU.below hb0)
  have HJ0 := Lib.hid (hJ.below hb0)
  obtain ⟨hug, huc, ua, rfl⟩ := hU
  have HR := Lib.hid hr
  have HB0 := Lib.hid hb0
  have HZ0 := Lib.hid zz0
  have HP0 := Lib.hid p0
  have HQ0 := Lib.hid q0
  have HZZ := Lib.hid hz
  have HFO := Lib.hid hf
  have HOW := Lib.hid ho
  clear hv hN hr hJ hug huc ho hb0 zz0 p0 q0 hs0 hz hf
  go_enter Tryz.func98, Tryz.ntmps98
  go_upto_region 1 with fail
  generalize ((w.alloc (.cells #[.int .i64 s.kind, .slice L s.labels.length lc, .slice A s.args.length ac] 27)).alloc (.cells #[.int .i64 11, .string nm, .int .i64 n0, .slice B 1 bc] 30)).alloc (.cells #[.int .i64 0, .slice none 0 0, .slice none 0 0, .int .i64 0] 60) = w0 at *
  have sp0 : w0.cell? ⟨w.heap.size, 0, none⟩ = some (.int .i64 s.kind) := HP0.out.cell 0
  have sp1 : w0.cell? ⟨w.heap.size, 1, none⟩ = some (.slice L s.labels.length lc) := HP0.out.cell 1
  have sp2 : w0.cell? ⟨w.heap.size, 2, none⟩ = some (.slice A s.args.length ac) := HP0.out.cell 2
  have qo0 : w0.cell? ⟨w.heap.size + 1, 0, none⟩ = some (.int .i64 11) := HQ0.out.cell 0
  have qo1 : w0.cell? ⟨w.heap.size + 1, 1, none⟩ = some (.string nm) := HQ0.out.cell 1
  have qo2 : w0.cell? ⟨w.heap.size + 1, 2, none⟩ = some (.int .i64 n0) := HQ0.out.cell 2
  have qo3 : w0.cell? ⟨w.heap.size + 1, 3, none⟩ = some (.slice B 1 bc) := HQ0.out.cell 3
  have hzp := szOt_eq (.mk 11 n0 nm [o1])
  have hzq := HZZ.out
  have z1 : szOt o1 ≤ 1048576 := by
    have := szOt_part [o1] 0 (by simp)
    simp only [Ot.args] at hzp
    simp only [List.getElem_cons_zero] at this
    omega
  have hoa := oargs_at (ts := [o1]) HO0.out
  obtain ⟨b, off, B1, bc1, rfl, hbl, x0, x2, x1, x3, hx1⟩ := hoa.elem 0 (by simp)
  have y00 : w0.cell? ⟨b, off, none⟩ = some (.int .i64 o1.kind) := by have h := x0; simp only [Nat.zero_mul, Nat.add_zero] at h; exact h
  have y01 : w0.cell? ⟨b, off + 1, none⟩ = some (.string o1.name) := by have h := x1; simp only [Nat.zero_mul, Nat.add_zero] at h; exact h
  have y02 : w0.cell? ⟨b, off + 2, none⟩ = some (.int .i64 o1.num) := by have h := x2; simp only [Nat.zero_mul, Nat.add_zero] at h; exact h
  have y03 : w0.cell? ⟨b, off + 3, none⟩ = some (.slice B1 o1.args.length bc1) := by have h := x3; simp only [Nat.zero_mul, Nat.add_zero] at h; exact h
  have HX1 : Hid (OtAt w0 w0.heap.size (.agg #[.int .i64 o1.kind, .string o1.name, .int .i64 o1.num, .slice B1 o1.args.length bc1]) o1) := Lib.hid hx1
  have hpl := HP0.out.lt
  have hql := HQ0.out.lt
  have hnp : w.heap.size + 1 + 1 ≠ w.heap.size := by omega
  have hnq : w.heap.size + 1 + 1 ≠ w.heap.size + 1 := by omega
  have hbw : b < w.heap.size := by
    obtain ⟨b9, o9, _, _, h9, h9', _⟩ := (oargs_at (ts := [o1]) HOW.out).elem 0 (by simp)
    simp only [Option.some.injEq, Addr.mk.injEq] at h9
    omega
  have hne : w.heap.size + 1 + 1 ≠ b := by omega
  have HC : Hid (Calls Tryz.prog 117 #[.agg #[.int .i64 s.kind, .slice L s.labels.length lc, .slice A s.args.length ac], .agg #[.int .i64 o1.kind, .string o1.name, .int .i64 o1.num, .slice B1 o1.args.length bc1]] w0.drew (TypPost (fun b => N b ∨ b = w.heap.size + 1 + 1) (.iface 195 (.pointer (some ua))) r w0.drew)) := Lib.hid (typMap_any o1 h1 (N := fun b => N b ∨ b = w.heap.size + 1 + 1) (u := (.iface 195 (.pointer (some ua)))) (r := r) s _ _ _ HN0.out (HU0.out.below (Below.refl _ _).drew) (HJ0.out.below (Below.refl _ _).drew) (HV0.out.drew) (HX1.out.up (Below.refl _ _).drew) hval f1 z1 HR.out)
  clear hval hse hnm hzp hzq z1 hoa hx1 x0 x1 x2 x3 h1 f1
  go_upto_region 24 with fail
  have fa0 : w0.drew.cell? ⟨w.heap.size, 0, none⟩ = some (.int .i64 s.kind) := (HP0.out.cell 0)
  have fa1 : w0.drew.cell? ⟨w.heap.size, 1, none⟩ = some (.slice L s.labels.length lc) := (HP0.out.cell 1)
  have fa2 : w0.drew.cell? ⟨w.heap.size, 2, none⟩ = some (.slice A s.args.length ac) := (HP0.out.cell 2)
  have fa3 : w0.drew.cell? ⟨w.heap.size + 1, 3, none⟩ = some (.slice (some ⟨b, off, none⟩) 1 bc) := (HQ0.out.cell 3)
  have fa4 : w0.drew.cell? ⟨b, off, none⟩ = some (.int .i64 o1.kind) := (y00)
  have fa5 : w0.drew.cell? ⟨b, off + 1, none⟩ = some (.string o1.name) := (y01)
  have fa6 : w0.drew.cell? ⟨b, off + 2, none⟩ = some (.int .i64 o1.num) := (y02)
  have fa7 : w0.drew.cell? ⟨b, off + 3, none⟩ = some (.slice B1 o1.args.length bc1) := (y03)
  go_region_held3 (fun x' : World => x'.cell? ⟨w.heap.size, 0, none⟩ = some (.int .i64 s.kind) ∧ x'.cell? ⟨w.heap.size, 1, none⟩ = some (.slice L s.labels.length lc) ∧ x'.cell? ⟨w.heap.size, 2, none⟩ = some (.slice A s.args.length ac) ∧ x'.cell? ⟨w.heap.size + 1, 3, none⟩ = some (.slice (some ⟨b, off, none⟩) 1 bc) ∧ x'.cell? ⟨b, off, none⟩ = some (.int .i64 o1.kind) ∧ x'.cell? ⟨b, off + 1, none⟩ = some (.string o1.name) ∧ x'.cell? ⟨b, off + 2, none⟩ = some (.int .i64 o1.num) ∧ x'.cell? ⟨b, off + 3, none⟩ = some (.slice B1 o1.args.length bc1)) (first | with_reducible exact ⟨fa0, fa1, fa2, fa3, fa4, fa5, fa6, fa7⟩ | with_reducible exact ⟨fk0, fk1, fk2, fk3, fk4, fk5, fk6, fk7⟩ | with_reducible exact ⟨fl0, fl1, fl2, fl3, fl4, fl5, fl6, fl7⟩ | go_keep) (first | (go_simp; go_at_call 117; (with_reducible refine (HC.out).mono ?_); rintro e w9 ⟨L9, lc9, A9, ac9, t9, k9, x9, rfl, hv9, hb9', hs9, hor9⟩; have hb9 := (Below.refl w0.heap.size w0).drew.trans hb9'; have fk0 : w9.cell? ⟨w.heap.size, 0, none⟩ = some (.int .i64 s.kind) := (hb9.cell (p := ⟨w.heap.size, 0, none⟩) hpl).trans (HP0.out.cell 0); have fl0 : ((((w9.setCell ⟨w.heap.size + 1 + 1, 0, none⟩ (.int .i64 t9.kind)).setCell ⟨w.heap.size + 1 + 1, 1, none⟩ (.slice L9 t9.labels.length lc9)).setCell ⟨w.heap.size + 1 + 1, 2, none⟩ (.slice A9 t9.args.length ac9)).setCell ⟨w.heap.size + 1 + 1, 3, none⟩ (.int .i64 k9)).cell? ⟨w.heap.size, 0, none⟩ = some (.int .i64 s.kind) := typ_far _ _ _ _ _ fk0 (hnp); have fk1 : w9.cell? ⟨w.heap.size, 1, none⟩ = some (.slice L s.labels.length lc) := (hb9.cell (p := ⟨w.heap.size, 1, none⟩) hpl).trans (HP0.out.cell 1); have fl1 : ((((w9.setCell ⟨w.heap.size + 1 + 1, 0, none⟩ (.int .i64 t9.kind)).setCell ⟨w.heap.size + 1 + 1, 1, none⟩ (.slice L9 t9.labels.length lc9)).setCell ⟨w.heap.size + 1 + 1, 2, none⟩ (.slice A9 t9.args.length ac9)).setCell ⟨w.heap.size + 1 + 1, 3, none⟩ (.int .i64 k9)).cell? ⟨w.heap.size, 1, none⟩ = some (.slice L s.labels.length lc) := typ_far _ _ _ _ _ fk1 (hnp); have fk2 : w9.cell? ⟨w.heap.size, 2, none⟩ = some (.slice A s.args.length ac) := (hb9.cell (p := ⟨w.heap.size, 2, none⟩) hpl).trans (HP0.out.cell 2); have fl2 : ((((w9.setCell ⟨w.heap.size + 1 + 1, 0, none⟩ (.int .i64 t9.kind)).setCell ⟨w.heap.size + 1 + 1, 1, none⟩ (.slice L9 t9.labels.length lc9)).setCell ⟨w.heap.size + 1 + 1, 2, none⟩ (.slice A9 t9.args.length ac9)).setCell ⟨w.heap.size + 1 + 1, 3, none⟩ (.int .i64 k9)).cell? ⟨w.heap.size, 2, none⟩ = some (.slice A s.args.length ac) := typ_far _ _ _ _ _ fk2 (hnp); have fk3 : w9.cell? ⟨w.heap.size + 1, 3, none⟩ = some (.slice (some ⟨b, off, none⟩) 1 bc) := (hb9.cell (p := ⟨w.heap.size + 1, 3, none⟩) hql).trans (HQ0.out.cell 3); have fl3 : ((((w9.setCell ⟨w.heap.size + 1 + 1, 0, none⟩ (.int .i64 t9.kind)).setCell ⟨w.heap.size + 1 + 1, 1, none⟩ (.slice L9 t9.labels.length lc9)).setCell ⟨w.heap.size + 1 + 1, 2, none⟩ (.slice A9 t9.args.length ac9)).setCell ⟨w.heap.size + 1 + 1, 3, none⟩ (.int .i64 k9)).cell? ⟨w.heap.size + 1, 3, none⟩ = some (.slice (some ⟨b, off, none⟩) 1 bc) := typ_far _ _ _ _ _ fk3 (hnq); have fk4 : w9.cell? ⟨b, off, none⟩ = some (.int .i64 o1.kind) := (hb9.cell (p := ⟨b, off, none⟩) hbl).trans (y00); have fl4 : ((((w9.setCell ⟨w.heap.size + 1 + 1, 0, none⟩ (.int .i64 t9.kind)).setCell ⟨w.heap.size + 1 + 1, 1, none⟩ (.slice L9 t9.labels.length lc9)).setCell ⟨w.heap.size + 1 + 1, 2, none⟩ (.slice A9 t9.args.length ac9)).setCell ⟨w.heap.size + 1 + 1, 3, none⟩ (.int .i64 k9)).cell? ⟨b, off, none⟩ = some (.int .i64 o1.kind) := typ_far _ _ _ _ _ fk4 (hne); have fk5 : w9.cell? ⟨b, off + 1, none⟩ = some (.string o1.name) := (hb9.cell (p := ⟨b, off + 1, none⟩) hbl).trans (y01); have fl5 : ((((w9.setCell ⟨w.heap.size + 1 + 1, 0, none⟩ (.int .i64 t9.kind)).setCell ⟨w.heap.size + 1 + 1, 1, none⟩ (.slice L9 t9.labels.length lc9)).setCell ⟨w.heap.size + 1 + 1, 2, none⟩ (.slice A9 t9.args.length ac9)).setCell ⟨w.heap.size + 1 + 1, 3, none⟩ (.int .i64 k9)).cell? ⟨b, off + 1, none⟩ = some (.string o1.name) := typ_far _ _ _ _ _ fk5 (hne); have fk6 : w9.cell? ⟨b, off + 2, none⟩ = some (.int .i64 o1.num) := (hb9.cell (p := ⟨b, off + 2, none⟩) hbl).trans (y02); have fl6 : ((((w9.setCell ⟨w.heap.size + 1 + 1, 0, none⟩ (.int .i64 t9.kind)).setCell ⟨w.heap.size + 1 + 1, 1, none⟩ (.slice L9 t9.labels.length lc9)).setCell ⟨w.heap.size + 1 + 1, 2, none⟩ (.slice A9 t9.args.length ac9)).setCell ⟨w.heap.size + 1 + 1, 3, none⟩ (.int .i64 k9)).cell? ⟨b, off + 2, none⟩ = some (.int .i64 o1.num) := typ_far _ _ _ _ _ fk6 (hne); have fk7 : w9.cell? ⟨b, off + 3, none⟩ = some (.slice B1 o1.args.length bc1) := (hb9.cell (p := ⟨b, off + 3, none⟩) hbl).trans (y03); have fl7 : ((((w9.setCell ⟨w.heap.size + 1 + 1, 0, none⟩ (.int .i64 t9.kind)).setCell ⟨w.heap.size + 1 + 1, 1, none⟩ (.slice L9 t9.labels.length lc9)).setCell ⟨w.heap.size + 1 + 1, 2, none⟩ (.slice A9 t9.args.length ac9)).setCell ⟨w.heap.size + 1 + 1, 3, none⟩ (.int .i64 k9)).cell? ⟨b, off + 3, none⟩ = some (.slice B1 o1.args.length bc1) := typ_far _ _ _ _ _ fk7 (hne); have z9 := HZ0.out.below hb9 HZ0.out.lt; have d0 : w9.cell? ⟨w.heap.size + 1 + 1, 0, none⟩ = some (.int .i64 0) := z9.cell 0; have df0 : w9.frozen? ⟨w.heap.size + 1 + 1, 0, none⟩ = false := z9.free 0; have d1 : w9.cell? ⟨w.heap.size + 1 + 1, 1, none⟩ = some (.slice none 0 0) := z9.cell 1; have df1 : w9.frozen? ⟨w.heap.size + 1 + 1, 1, none⟩ = false := z9.free 1; have d2 : w9.cell? ⟨w.heap.size + 1 + 1, 2, none⟩ = some (.slice none 0 0) := z9.cell 2; have df2 : w9.frozen? ⟨w.heap.size + 1 + 1, 2, none⟩ = false := z9.free 2; have d3 : w9.cell? ⟨w.heap.size + 1 + 1, 3, none⟩ = some (.int .i64 0) := z9.cell 3; have df3 : w9.frozen? ⟨w.heap.size + 1 + 1, 3, none⟩ = false := z9.free 3; have HF := Lib.hid (fun a b c d => typ_fin (r := r) (show w.heap.size ≤ w.heap.size + 1 + 1 by omega) (HB0.out.trans (hb9.mono HB0.out.size)) hv9 hs9 hor9 a b c d); clear hv9 hs9 hor9; clear hb9' hb9 z9))
  all_goals go_wp2
  all_goals exact bodyPost_ret (v := .tuple #[.agg #[.int .i64 t9.kind, .slice L9 t9.labels.length lc9, .slice A9 t9.args.length ac9, .int .i64 k9], x9]) (by simp [results, Tryz.results98, go_sem, d0, d1, d2, d3]) rfl (HF.out _ _ _ _)

set_option maxHeartbeats 4000000 in
theorem typKind_then (o1 o2 : Ot) (h1 : TypOne o1) (h2 : TypOne o2) (f1 : formOt o1 = true) (f2 : formOt o2 = true) (n0 : Int) (nm : ByteArray) (B : Option Addr) (bc : Nat) {N : Nat → Prop} {u : Value} {r : Option (Ty × Int)} (s : Ty) (sv : Value) (w : World) (hN : ∀ b, N b → b < w.heap.size) (hU : UnfitAt w u) (hJ : JoinsAt w) (hv : OwnA N w sv s) (ho : OtAt w w.heap.size (.agg #[.int .i64 12, .string nm, .int .i64 n0, .slice B 2 bc]) (.mk 12 n0 nm [o1, o2])) (hval : validB s = true) (hf : formOt (.mk 12 n0 nm [o1, o2]) = true) (hz : szOt (.mk 12 n0 nm [o1, o2]) ≤ 1048576) (hr : r = thenO (typeO o1) (typeO o2) s) :
    Calls Tryz.prog 98 #[sv, .agg #[.int .i64 12, .string nm, .int .i64 n0, .slice B 2 bc]] w (TypPost N u r w) := by
  have hnm := form_name hf
  have hse := szTy_valid hval
  obtain ⟨L, lc, A, ac, rfl⟩ := hv.open
  obtain ⟨hb0, p0, q0, zz0, hs0⟩ := boxes3 w 27 30 60 #[.int .i64 s.kind, .slice L s.labels.length lc, .slice A s.args.length ac] #[.int .i64 12, .string nm, .int .i64 n0, .slice B 2 bc] #[.int .i64 0, .slice none 0 0, .slice none 0 0, .int .i64 0]
  have HV0 := Lib.hid ((hv.late (w.heap.size + 1 + 1) (by omega)).up hb0)
  have HO0 := Lib.hid (ho.up hb0)
  have HN0 := Lib.hid (show ∀ b, (N b ∨ b = w.heap.size + 1 + 1) → b < (((w.alloc (.cells #[.int .i64 s.kind, .slice L s.labels.length lc, .slice A s.args.length ac] 27)).alloc (.cells #[.int .i64 12, .string nm, .int .i64 n0, .slice B 2 bc] 30)).alloc (.cells #[.int .i64 0, .slice none 0 0, .slice none 0 0, .int .i64 0] 60)).heap.size from fun b hb => hb.elim (fun hb => Nat.lt_of_lt_of_le (hN b hb) hb0.size) (fun e => e ▸ zz0.lt))
  have HU0 := Lib.hid (hU.below hb0)
  have HJ0 := Lib.hid (hJ.below hb0)
  obtain ⟨hug, huc, ua, rfl⟩ := hU
  have HR := Lib.hid hr
  have HB0 := Lib.hid hb0
  have HZ0 := Lib.hid zz0
  have HP0 := Lib.hid p0
  have HQ0 := Lib.hid q0
  have HZZ := Lib.hid hz
  have HFO := Lib.hid hf
  have HOW := Lib.hid ho
  clear hv hN hr hJ hug huc ho hb0 zz0 p0 q0 hs0 hz hf
  go_enter Tryz.func98, Tryz.ntmps98
  go_upto_region 1 with fail
  generalize ((w.alloc (.cells #[.int .i64 s.kind, .slice L s.labels.length lc, .slice A s.args.length ac] 27)).alloc (.cells #[.int .i64 12, .string nm, .int .i64 n0, .slice B 2 bc] 30)).alloc (.cells #[.int .i64 0, .slice none 0 0, .slice none 0 0, .int .i64 0] 60) = w0 at *
  have sp0 : w0.cell? ⟨w.heap.size, 0, none⟩ = some (.int .i64 s.kind) := HP0.out.cell 0
  have sp1 : w0.cell? ⟨w.heap.size, 1, none⟩ = some (.slice L s.labels.length lc) := HP0.out.cell 1
  have sp2 : w0.cell? ⟨w.heap.size, 2, none⟩ = some (.slice A s.args.length ac) := HP0.out.cell 2
  have qo0 : w0.cell? ⟨w.heap.size + 1, 0, none⟩ = some (.int .i64 12) := HQ0.out.cell 0
  have qo1 : w0.cell? ⟨w.heap.size + 1, 1, none⟩ = some (.string nm) := HQ0.out.cell 1
  have qo2 : w0.cell? ⟨w.heap.size + 1, 2, none⟩ = some (.int .i64 n0) := HQ0.out.cell 2
  have qo3 : w0.cell? ⟨w.heap.size + 1, 3, none⟩ = some (.slice B 2 bc) := HQ0.out.cell 3
  have hzp := szOt_eq (.mk 12 n0 nm [o1, o2])
  have hzq := HZZ.out
  have z1 : szOt o1 ≤ 1048576 := by
    have := szOt_part [o1, o2] 0 (by simp)
    simp only [Ot.args] at hzp
    simp only [List.getElem_cons_zero] at this
    omega
  have z2 : szOt o2 ≤ 1048576 := by
    have := szOt_part [o1, o2] 1 (by simp)
    simp only [Ot.args] at hzp
    simp only [List.getElem_cons_succ, List.getElem_cons_zero] at this
    omega
  have hoa := oargs_at (ts := [o1, o2]) HO0.out
  obtain ⟨b, off, B1, bc1, rfl, hbl, x0, x2, x1, x3, hx1⟩ := hoa.elem 0 (by simp)
  have y00 : w0.cell? ⟨b, off, none⟩ = some (.int .i64 o1.kind) := by have h := x0; simp only [Nat.zero_mul, Nat.add_zero] at h; exact h
  have y01 : w0.cell? ⟨b, off + 1, none⟩ = some (.string o1.name) := by have h := x1; simp only [Nat.zero_mul, Nat.add_zero] at h; exact h
  have y02 : w0.cell? ⟨b, off + 2, none⟩ = some (.int .i64 o1.num) := by have h := x2; simp only [Nat.zero_mul, Nat.add_zero] at h; exact h
  have y03 : w0.cell? ⟨b, off + 3, none⟩ = some (.slice B1 o1.args.length bc1) := by have h := x3; simp only [Nat.zero_mul, Nat.add_zero] at h; exact h
  have HX1 : Hid (OtAt w0 w0.heap.size (.agg #[.int .i64 o1.kind, .string o1.name, .int .i64 o1.num, .slice B1 o1.args.length bc1]) o1) := Lib.hid hx1
  obtain ⟨b', off', B2, bc2, hbb, _, x0', x2', x1', x3', hx2⟩ := hoa.elem 1 (by simp)
  simp only [Option.some.injEq, Addr.mk.injEq, and_true] at hbb
  obtain ⟨rfl, rfl⟩ := hbb
  have y10 : w0.cell? ⟨b, off + 4, none⟩ = some (.int .i64 o2.kind) := by have h := x0'; simp only [Nat.one_mul] at h; exact h
  have y11 : w0.cell? ⟨b, off + 4 + 1, none⟩ = some (.string o2.name) := by have h := x1'; simp only [Nat.one_mul] at h; exact h
  have y12 : w0.cell? ⟨b, off + 4 + 2, none⟩ = some (.int .i64 o2.num) := by have h := x2'; simp only [Nat.one_mul] at h; exact h
  have y13 : w0.cell? ⟨b, off + 4 + 3, none⟩ = some (.slice B2 o2.args.length bc2) := by have h := x3'; simp only [Nat.one_mul] at h; exact h
  have HX2 : Hid (OtAt w0 w0.heap.size (.agg #[.int .i64 o2.kind, .string o2.name, .int .i64 o2.num, .slice B2 o2.args.length bc2]) o2) := Lib.hid hx2
  have hpl := HP0.out.lt
  have hql := HQ0.out.lt
  have hnp : w.heap.size + 1 + 1 ≠ w.heap.size := by omega
  have hnq : w.heap.size + 1 + 1 ≠ w.heap.size + 1 := by omega
  have hbw : b < w.heap.size := by
    obtain ⟨b9, o9, _, _, h9, h9', _⟩ := (oargs_at (ts := [o1, o2]) HOW.out).elem 0 (by simp)
    simp only [Option.some.injEq, Addr.mk.injEq] at h9
    omega
  have hne : w.heap.size + 1 + 1 ≠ b := by omega
  have HC : Hid (Calls Tryz.prog 118 #[.agg #[.int .i64 s.kind, .slice L s.labels.length lc, .slice A s.args.length ac], .agg #[.int .i64 o1.kind, .string o1.name, .int .i64 o1.num, .slice B1 o1.args.length bc1], .agg #[.int .i64 o2.kind, .string o2.name, .int .i64 o2.num, .slice B2 o2.args.length bc2]] w0.drew (TypPost (fun b => N b ∨ b = w.heap.size + 1 + 1) (.iface 195 (.pointer (some ua))) r w0.drew)) := Lib.hid (typThen_any o1 o2 h1 h2 (N := fun b => N b ∨ b = w.heap.size + 1 + 1) (u := (.iface 195 (.pointer (some ua)))) (r := r) s _ _ _ _ HN0.out (HU0.out.below (Below.refl _ _).drew) (HJ0.out.below (Below.refl _ _).drew) (HV0.out.drew) (HX1.out.up (Below.refl _ _).drew) (HX2.out.up (Below.refl _ _).drew) hval f1 f2 z1 z2 HR.out)
  clear hval hse hnm hzp hzq z1 hoa hx1 x0 x1 x2 x3 h1 f1 z2 hx2 x0' x1' x2' x3' h2 f2
  go_upto_region 26 with fail
  have fa0 : w0.drew.cell? ⟨w.heap.size, 0, none⟩ = some (.int .i64 s.kind) := (HP0.out.cell 0)
  have fa1 : w0.drew.cell? ⟨w.heap.size, 1, none⟩ = some (.slice L s.labels.length lc) := (HP0.out.cell 1)
  have fa2 : w0.drew.cell? ⟨w.heap.size, 2, none⟩ = some (.slice A s.args.length ac) := (HP0.out.cell 2)
  have fa3 : w0.drew.cell? ⟨w.heap.size + 1, 3, none⟩ = some (.slice (some ⟨b, off, none⟩) 2 bc) := (HQ0.out.cell 3)
  have fa4 : w0.drew.cell? ⟨b, off, none⟩ = some (.int .i64 o1.kind) := (y00)
  have fa5 : w0.drew.cell? ⟨b, off + 1, none⟩ = some (.string o1.name) := (y01)
  have fa6 : w0.drew.cell? ⟨b, off + 2, none⟩ = some (.int .i64 o1.num) := (y02)
  have fa7 : w0.drew.cell? ⟨b, off + 3, none⟩ = some (.slice B1 o1.args.length bc1) := (y03)
  have fa8 : w0.drew.cell? ⟨b, off + 4, none⟩ = some (.int .i64 o2.kind) := (y10)
  have fa9 : w0.drew.cell? ⟨b, off + 4 + 1, none⟩ = some (.string o2.name) := (y11)
  have fa10 : w0.drew.cell? ⟨b, off + 4 + 2, none⟩ = some (.int .i64 o2.num) := (y12)
  have fa11 : w0.drew.cell? ⟨b, off + 4 + 3, none⟩ = some (.slice B2 o2.args.length bc2) := (y13)
  go_region_held3 (fun x' : World => x'.cell? ⟨w.heap.size, 0, none⟩ = some (.int .i64 s.kind) ∧ x'.cell? ⟨w.heap.size, 1, none⟩ = some (.slice L s.labels.length lc) ∧ x'.cell? ⟨w.heap.size, 2, none⟩ = some (.slice A s.args.length ac) ∧ x'.cell? ⟨w.heap.size + 1, 3, none⟩ = some (.slice (some ⟨b, off, none⟩) 2 bc) ∧ x'.cell? ⟨b, off, none⟩ = some (.int .i64 o1.kind) ∧ x'.cell? ⟨b, off + 1, none⟩ = some (.string o1.name) ∧ x'.cell? ⟨b, off + 2, none⟩ = some (.int .i64 o1.num) ∧ x'.cell? ⟨b, off + 3, none⟩ = some (.slice B1 o1.args.length bc1) ∧ x'.cell? ⟨b, off + 4, none⟩ = some (.int .i64 o2.kind) ∧ x'.cell? ⟨b, off + 4 + 1, none⟩ = some (.string o2.name) ∧ x'.cell? ⟨b, off + 4 + 2, none⟩ = some (.int .i64 o2.num) ∧ x'.cell? ⟨b, off + 4 + 3, none⟩ = some (.slice B2 o2.args.length bc2)) (first | with_reducible exact ⟨fa0, fa1, fa2, fa3, fa4, fa5, fa6, fa7, fa8, fa9, fa10, fa11⟩ | with_reducible exact ⟨fk0, fk1, fk2, fk3, fk4, fk5, fk6, fk7, fk8, fk9, fk10, fk11⟩ | with_reducible exact ⟨fl0, fl1, fl2, fl3, fl4, fl5, fl6, fl7, fl8, fl9, fl10, fl11⟩ | go_keep) (first | (go_simp; go_at_call 118; (with_reducible refine (HC.out).mono ?_); rintro e w9 ⟨L9, lc9, A9, ac9, t9, k9, x9, rfl, hv9, hb9', hs9, hor9⟩; have hb9 := (Below.refl w0.heap.size w0).drew.trans hb9'; have fk0 : w9.cell? ⟨w.heap.size, 0, none⟩ = some (.int .i64 s.kind) := (hb9.cell (p := ⟨w.heap.size, 0, none⟩) hpl).trans (HP0.out.cell 0); have fl0 : ((((w9.setCell ⟨w.heap.size + 1 + 1, 0, none⟩ (.int .i64 t9.kind)).setCell ⟨w.heap.size + 1 + 1, 1, none⟩ (.slice L9 t9.labels.length lc9)).setCell ⟨w.heap.size + 1 + 1, 2, none⟩ (.slice A9 t9.args.length ac9)).setCell ⟨w.heap.size + 1 + 1, 3, none⟩ (.int .i64 k9)).cell? ⟨w.heap.size, 0, none⟩ = some (.int .i64 s.kind) := typ_far _ _ _ _ _ fk0 (hnp); have fk1 : w9.cell? ⟨w.heap.size, 1, none⟩ = some (.slice L s.labels.length lc) := (hb9.cell (p := ⟨w.heap.size, 1, none⟩) hpl).trans (HP0.out.cell 1); have fl1 : ((((w9.setCell ⟨w.heap.size + 1 + 1, 0, none⟩ (.int .i64 t9.kind)).setCell ⟨w.heap.size + 1 + 1, 1, none⟩ (.slice L9 t9.labels.length lc9)).setCell ⟨w.heap.size + 1 + 1, 2, none⟩ (.slice A9 t9.args.length ac9)).setCell ⟨w.heap.size + 1 + 1, 3, none⟩ (.int .i64 k9)).cell? ⟨w.heap.size, 1, none⟩ = some (.slice L s.labels.length lc) := typ_far _ _ _ _ _ fk1 (hnp); have fk2 : w9.cell? ⟨w.heap.size, 2, none⟩ = some (.slice A s.args.length ac) := (hb9.cell (p := ⟨w.heap.size, 2, none⟩) hpl).trans (HP0.out.cell 2); have fl2 : ((((w9.setCell ⟨w.heap.size + 1 + 1, 0, none⟩ (.int .i64 t9.kind)).setCell ⟨w.heap.size + 1 + 1, 1, none⟩ (.slice L9 t9.labels.length lc9)).setCell ⟨w.heap.size + 1 + 1, 2, none⟩ (.slice A9 t9.args.length ac9)).setCell ⟨w.heap.size + 1 + 1, 3, none⟩ (.int .i64 k9)).cell? ⟨w.heap.size, 2, none⟩ = some (.slice A s.args.length ac) := typ_far _ _ _ _ _ fk2 (hnp); have fk3 : w9.cell? ⟨w.heap.size + 1, 3, none⟩ = some (.slice (some ⟨b, off, none⟩) 2 bc) := (hb9.cell (p := ⟨w.heap.size + 1, 3, none⟩) hql).trans (HQ0.out.cell 3); have fl3 : ((((w9.setCell ⟨w.heap.size + 1 + 1, 0, none⟩ (.int .i64 t9.kind)).setCell ⟨w.heap.size + 1 + 1, 1, none⟩ (.slice L9 t9.labels.length lc9)).setCell ⟨w.heap.size + 1 + 1, 2, none⟩ (.slice A9 t9.args.length ac9)).setCell ⟨w.heap.size + 1 + 1, 3, none⟩ (.int .i64 k9)).cell? ⟨w.heap.size + 1, 3, none⟩ = some (.slice (some ⟨b, off, none⟩) 2 bc) := typ_far _ _ _ _ _ fk3 (hnq); have fk4 : w9.cell? ⟨b, off, none⟩ = some (.int .i64 o1.kind) := (hb9.cell (p := ⟨b, off, none⟩) hbl).trans (y00); have fl4 : ((((w9.setCell ⟨w.heap.size + 1 + 1, 0, none⟩ (.int .i64 t9.kind)).setCell ⟨w.heap.size + 1 + 1, 1, none⟩ (.slice L9 t9.labels.length lc9)).setCell ⟨w.heap.size + 1 + 1, 2, none⟩ (.slice A9 t9.args.length ac9)).setCell ⟨w.heap.size + 1 + 1, 3, none⟩ (.int .i64 k9)).cell? ⟨b, off, none⟩ = some (.int .i64 o1.kind) := typ_far _ _ _ _ _ fk4 (hne); have fk5 : w9.cell? ⟨b, off + 1, none⟩ = some (.string o1.name) := (hb9.cell (p := ⟨b, off + 1, none⟩) hbl).trans (y01); have fl5 : ((((w9.setCell ⟨w.heap.size + 1 + 1, 0, none⟩ (.int .i64 t9.kind)).setCell ⟨w.heap.size + 1 + 1, 1, none⟩ (.slice L9 t9.labels.length lc9)).setCell ⟨w.heap.size + 1 + 1, 2, none⟩ (.slice A9 t9.args.length ac9)).setCell ⟨w.heap.size + 1 + 1, 3, none⟩ (.int .i64 k9)).cell? ⟨b, off + 1, none⟩ = some (.string o1.name) := typ_far _ _ _ _ _ fk5 (hne); have fk6 : w9.cell? ⟨b, off + 2, none⟩ = some (.int .i64 o1.num) := (hb9.cell (p := ⟨b, off + 2, none⟩) hbl).trans (y02); have fl6 : ((((w9.setCell ⟨w.heap.size + 1 + 1, 0, none⟩ (.int .i64 t9.kind)).setCell ⟨w.heap.size + 1 + 1, 1, none⟩ (.slice L9 t9.labels.length lc9)).setCell ⟨w.heap.size + 1 + 1, 2, none⟩ (.slice A9 t9.args.length ac9)).setCell ⟨w.heap.size + 1 + 1, 3, none⟩ (.int .i64 k9)).cell? ⟨b, off + 2, none⟩ = some (.int .i64 o1.num) := typ_far _ _ _ _ _ fk6 (hne); have fk7 : w9.cell? ⟨b, off + 3, none⟩ = some (.slice B1 o1.args.length bc1) := (hb9.cell (p := ⟨b, off + 3, none⟩) hbl).trans (y03); have fl7 : ((((w9.setCell ⟨w.heap.size + 1 + 1, 0, none⟩ (.int .i64 t9.kind)).setCell ⟨w.heap.size + 1 + 1, 1, none⟩ (.slice L9 t9.labels.length lc9)).setCell ⟨w.heap.size + 1 + 1, 2, none⟩ (.slice A9 t9.args.length ac9)).setCell ⟨w.heap.size + 1 + 1, 3, none⟩ (.int .i64 k9)).cell? ⟨b, off + 3, none⟩ = some (.slice B1 o1.args.length bc1) := typ_far _ _ _ _ _ fk7 (hne); have fk8 : w9.cell? ⟨b, off + 4, none⟩ = some (.int .i64 o2.kind) := (hb9.cell (p := ⟨b, off + 4, none⟩) hbl).trans (y10); have fl8 : ((((w9.setCell ⟨w.heap.size + 1 + 1, 0, none⟩ (.int .i64 t9.kind)).setCell ⟨w.heap.size + 1 + 1, 1, none⟩ (.slice L9 t9.labels.length lc9)).setCell ⟨w.heap.size + 1 + 1, 2, none⟩ (.slice A9 t9.args.length ac9)).setCell ⟨w.heap.size + 1 + 1, 3, none⟩ (.int .i64 k9)).cell? ⟨b, off + 4, none⟩ = some (.int .i64 o2.kind) := typ_far _ _ _ _ _ fk8 (hne); have fk9 : w9.cell? ⟨b, off + 4 + 1, none⟩ = some (.string o2.name) := (hb9.cell (p := ⟨b, off + 4 + 1, none⟩) hbl).trans (y11); have fl9 : ((((w9.setCell ⟨w.heap.size + 1 + 1, 0, none⟩ (.int .i64 t9.kind)).setCell ⟨w.heap.size + 1 + 1, 1, none⟩ (.slice L9 t9.labels.length lc9)).setCell ⟨w.heap.size + 1 + 1, 2, none⟩ (.slice A9 t9.args.length ac9)).setCell ⟨w.heap.size + 1 + 1, 3, none⟩ (.int .i64 k9)).cell? ⟨b, off + 4 + 1, none⟩ = some (.string o2.name) := typ_far _ _ _ _ _ fk9 (hne); have fk10 : w9.cell? ⟨b, off + 4 + 2, none⟩ = some (.int .i64 o2.num) := (hb9.cell (p := ⟨b, off + 4 + 2, none⟩) hbl).trans (y12); have fl10 : ((((w9.setCell ⟨w.heap.size + 1 + 1, 0, none⟩ (.int .i64 t9.kind)).setCell ⟨w.heap.size + 1 + 1, 1, none⟩ (.slice L9 t9.labels.length lc9)).setCell ⟨w.heap.size + 1 + 1, 2, none⟩ (.slice A9 t9.args.length ac9)).setCell ⟨w.heap.size + 1 + 1, 3, none⟩ (.int .i64 k9)).cell? ⟨b, off + 4 + 2, none⟩ = some (.int .i64 o2.num) := typ_far _ _ _ _ _ fk10 (hne); have fk11 : w9.cell? ⟨b, off + 4 + 3, none⟩ = some (.slice B2 o2.args.length bc2) := (hb9.cell (p := ⟨b, off + 4 + 3, none⟩) hbl).trans (y13); have fl11 : ((((w9.setCell ⟨w.heap.size + 1 + 1, 0, none⟩ (.int .i64 t9.kind)).setCell ⟨w.heap.size + 1 + 1, 1, none⟩ (.slice L9 t9.labels.length lc9)).setCell ⟨w.heap.size + 1 + 1, 2, none⟩ (.slice A9 t9.args.length ac9)).setCell ⟨w.heap.size + 1 + 1, 3, none⟩ (.int .i64 k9)).cell? ⟨b, off + 4 + 3, none⟩ = some (.slice B2 o2.args.length bc2) := typ_far _ _ _ _ _ fk11 (hne); have z9 := HZ0.out.below hb9 HZ0.out.lt; have d0 : w9.cell? ⟨w.heap.size + 1 + 1, 0, none⟩ = some (.int .i64 0) := z9.cell 0; have df0 : w9.frozen? ⟨w.heap.size + 1 + 1, 0, none⟩ = false := z9.free 0; have d1 : w9.cell? ⟨w.heap.size + 1 + 1, 1, none⟩ = some (.slice none 0 0) := z9.cell 1; have df1 : w9.frozen? ⟨w.heap.size + 1 + 1, 1, none⟩ = false := z9.free 1; have d2 : w9.cell? ⟨w.heap.size + 1 + 1, 2, none⟩ = some (.slice none 0 0) := z9.cell 2; have df2 : w9.frozen? ⟨w.heap.size + 1 + 1, 2, none⟩ = false := z9.free 2; have d3 : w9.cell? ⟨w.heap.size + 1 + 1, 3, none⟩ = some (.int .i64 0) := z9.cell 3; have df3 : w9.frozen? ⟨w.heap.size + 1 + 1, 3, none⟩ = false := z9.free 3; have HF := Lib.hid (fun a b c d => typ_fin (r := r) (show w.heap.size ≤ w.heap.size + 1 + 1 by omega) (HB0.out.trans (hb9.mono HB0.out.size)) hv9 hs9 hor9 a b c d); clear hv9 hs9 hor9; clear hb9' hb9 z9))
  all_goals go_wp2
  all_goals exact bodyPost_ret (v := .tuple #[.agg #[.int .i64 t9.kind, .slice L9 t9.labels.length lc9, .slice A9 t9.args.length ac9, .int .i64 k9], x9]) (by simp [results, Tryz.results98, go_sem, d0, d1, d2, d3]) rfl (HF.out _ _ _ _)

set_option maxHeartbeats 4000000 in
theorem typKind_else (o1 o2 : Ot) (h1 : TypOne o1) (h2 : TypOne o2) (f1 : formOt o1 = true) (f2 : formOt o2 = true) (n0 : Int) (nm : ByteArray) (B : Option Addr) (bc : Nat) {N : Nat → Prop} {u : Value} {r : Option (Ty × Int)} (s : Ty) (sv : Value) (w : World) (hN : ∀ b, N b → b < w.heap.size) (hU : UnfitAt w u) (hJ : JoinsAt w) (hv : OwnA N w sv s) (ho : OtAt w w.heap.size (.agg #[.int .i64 13, .string nm, .int .i64 n0, .slice B 2 bc]) (.mk 13 n0 nm [o1, o2])) (hval : validB s = true) (hf : formOt (.mk 13 n0 nm [o1, o2]) = true) (hz : szOt (.mk 13 n0 nm [o1, o2]) ≤ 1048576) (hr : r = elseO (typeO o1) (typeO o2) s) :
    Calls Tryz.prog 98 #[sv, .agg #[.int .i64 13, .string nm, .int .i64 n0, .slice B 2 bc]] w (TypPost N u r w) := by
  have hnm := form_name hf
  have hse := szTy_valid hval
  obtain ⟨L, lc, A, ac, rfl⟩ := hv.open
  obtain ⟨hb0, p0, q0, zz0, hs0⟩ := boxes3 w 27 30 60 #[.int .i64 s.kind, .slice L s.labels.length lc, .slice A s.args.length ac] #[.int .i64 13, .string nm, .int .i64 n0, .slice B 2 bc] #[.int .i64 0, .slice none 0 0, .slice none 0 0, .int .i64 0]
  have HV0 := Lib.hid ((hv.late (w.heap.size + 1 + 1) (by omega)).up hb0)
  have HO0 := Lib.hid (ho.up hb0)
  have HN0 := Lib.hid (show ∀ b, (N b ∨ b = w.heap.size + 1 + 1) → b < (((w.alloc (.cells #[.int .i64 s.kind, .slice L s.labels.length lc, .slice A s.args.length ac] 27)).alloc (.cells #[.int .i64 13, .string nm, .int .i64 n0, .slice B 2 bc] 30)).alloc (.cells #[.int .i64 0, .slice none 0 0, .slice none 0 0, .int .i64 0] 60)).heap.size from fun b hb => hb.elim (fun hb => Nat.lt_of_lt_of_le (hN b hb) hb0.size) (fun e => e ▸ zz0.lt))
  have HU0 := Lib.hid (hU.below hb0)
  have HJ0 := Lib.hid (hJ.below hb0)
  obtain ⟨hug, huc, ua, rfl⟩ := hU
  have HR := Lib.hid hr
  have HB0 := Lib.hid hb0
  have HZ0 := Lib.hid zz0
  have HP0 := Lib.hid p0
  have HQ0 := Lib.hid q0
  have HZZ := Lib.hid hz
  have HFO := Lib.hid hf
  have HOW := Lib.hid ho
  clear hv hN hr hJ hug huc ho hb0 zz0 p0 q0 hs0 hz hf
  go_enter Tryz.func98, Tryz.ntmps98
  go_upto_region 1 with fail
  generalize ((w.alloc (.cells #[.int .i64 s.kind, .slice L s.labels.length lc, .slice A s.args.length ac] 27)).alloc (.cells #[.int .i64 13, .string nm, .int .i64 n0, .slice B 2 bc] 30)).alloc (.cells #[.int .i64 0, .slice none 0 0, .slice none 0 0, .int .i64 0] 60) = w0 at *
  have sp0 : w0.cell? ⟨w.heap.size, 0, none⟩ = some (.int .i64 s.kind) := HP0.out.cell 0
  have sp1 : w0.cell? ⟨w.heap.size, 1, none⟩ = some (.slice L s.labels.length lc) := HP0.out.cell 1
  have sp2 : w0.cell? ⟨w.heap.size, 2, none⟩ = some (.slice A s.args.length ac) := HP0.out.cell 2
  have qo0 : w0.cell? ⟨w.heap.size + 1, 0, none⟩ = some (.int .i64 13) := HQ0.out.cell 0
  have qo1 : w0.cell? ⟨w.heap.size + 1, 1, none⟩ = some (.string nm) := HQ0.out.cell 1
  have qo2 : w0.cell? ⟨w.heap.size + 1, 2, none⟩ = some (.int .i64 n0) := HQ0.out.cell 2
  have qo3 : w0.cell? ⟨w.heap.size + 1, 3, none⟩ = some (.slice B 2 bc) := HQ0.out.cell 3
  have hzp := szOt_eq (.mk 13 n0 nm [o1, o2])
  have hzq := HZZ.out
  have z1 : szOt o1 ≤ 1048576 := by
    have := szOt_part [o1, o2] 0 (by simp)
    simp only [Ot.args] at hzp
    simp only [List.getElem_cons_zero] at this
    omega
  have z2 : szOt o2 ≤ 1048576 := by
    have := szOt_part [o1, o2] 1 (by simp)
    simp only [Ot.args] at hzp
    simp only [List.getElem_cons_succ, List.getElem_cons_zero] at this
    omega
  have hoa := oargs_at (ts := [o1, o2]) HO0.out
  obtain ⟨b, off, B1, bc1, rfl, hbl, x0, x2, x1, x3, hx1⟩ := hoa.elem 0 (by simp)
  have y00 : w0.cell? ⟨b, off, none⟩ = some (.int .i64 o1.kind) := by have h := x0; simp only [Nat.zero_mul, Nat.add_zero] at h; exact h
  have y01 : w0.cell? ⟨b, off + 1, none⟩ = some (.string o1.name) := by have h := x1; simp only [Nat.zero_mul, Nat.add_zero] at h; exact h
  have y02 : w0.cell? ⟨b, off + 2, none⟩ = some (.int .i64 o1.num) := by have h := x2; simp only [Nat.zero_mul, Nat.add_zero] at h; exact h
  have y03 : w0.cell? ⟨b, off + 3, none⟩ = some (.slice B1 o1.args.length bc1) := by have h := x3; simp only [Nat.zero_mul, Nat.add_zero] at h; exact h
  have HX1 : Hid (OtAt w0 w0.heap.size (.agg #[.int .i64 o1.kind, .string o1.name, .int .i64 o1.num, .slice B1 o1.args.length bc1]) o1) := Lib.hid hx1
  obtain ⟨b', off', B2, bc2, hbb, _, x0', x2', x1', x3', hx2⟩ := hoa.elem 1 (by simp)
  simp only [Option.some.injEq, Addr.mk.injEq, and_true] at hbb
  obtain ⟨rfl, rfl⟩ := hbb
  have y10 : w0.cell? ⟨b, off + 4, none⟩ = some (.int .i64 o2.kind) := by have h := x0'; simp only [Nat.one_mul] at h; exact h
  have y11 : w0.cell? ⟨b, off + 4 + 1, none⟩ = some (.string o2.name) := by have h := x1'; simp only [Nat.one_mul] at h; exact h
  have y12 : w0.cell? ⟨b, off + 4 + 2, none⟩ = some (.int .i64 o2.num) := by have h := x2'; simp only [Nat.one_mul] at h; exact h
  have y13 : w0.cell? ⟨b, off + 4 + 3, none⟩ = some (.slice B2 o2.args.length bc2) := by have h := x3'; simp only [Nat.one_mul] at h; exact h
  have HX2 : Hid (OtAt w0 w0.heap.size (.agg #[.int .i64 o2.kind, .string o2.name, .int .i64 o2.num, .slice B2 o2.args.length bc2]) o2) := Lib.hid hx2
  have hpl := HP0.out.lt
  have hql := HQ0.out.lt
  have hnp : w.heap.size + 1 + 1 ≠ w.heap.size := by omega
  have hnq : w.heap.size + 1 + 1 ≠ w.heap.size + 1 := by omega
  have hbw : b < w.heap.size := by
    obtain ⟨b9, o9, _, _, h9, h9', _⟩ := (oargs_at (ts := [o1, o2]) HOW.out).elem 0 (by simp)
    simp only [Option.some.injEq, Addr.mk.injEq] at h9
    omega
  have hne : w.heap.size + 1 + 1 ≠ b := by omega
  have HC : Hid (Calls Tryz.prog 119 #[.agg #[.int .i64 s.kind, .slice L s.labels.length lc, .slice A s.args.length ac], .agg #[.int .i64 o1.kind, .string o1.name, .int .i64 o1.num, .slice B1 o1.args.length bc1], .agg #[.int .i64 o2.kind, .string o2.name, .int .i64 o2.num, .slice B2 o2.args.length bc2]] w0.drew (TypPost (fun b => N b ∨ b = w.heap.size + 1 + 1) (.iface 195 (.pointer (some ua))) r w0.drew)) := Lib.hid (typElse_any o1 o2 h1 h2 (N := fun b => N b ∨ b = w.heap.size + 1 + 1) (u := (.iface 195 (.pointer (some ua)))) (r := r) s _ _ _ _ HN0.out (HU0.out.below (Below.refl _ _).drew) (HJ0.out.below (Below.refl _ _).drew) (HV0.out.drew) (HX1.out.up (Below.refl _ _).drew) (HX2.out.up (Below.refl _ _).drew) hval f1 f2 z1 z2 HR.out)
  clear hval hse hnm hzp hzq z1 hoa hx1 x0 x1 x2 x3 h1 f1 z2 hx2 x0' x1' x2' x3' h2 f2
  go_upto_region 28 with fail
  have fa0 : w0.drew.cell? ⟨w.heap.size, 0, none⟩ = some (.int .i64 s.kind) := (HP0.out.cell 0)
  have fa1 : w0.drew.cell? ⟨w.heap.size, 1, none⟩ = some (.slice L s.labels.length lc) := (HP0.out.cell 1)
  have fa2 : w0.drew.cell? ⟨w.heap.size, 2, none⟩ = some (.slice A s.args.length ac) := (HP0.out.cell 2)
  have fa3 : w0.drew.cell? ⟨w.heap.size + 1, 3, none⟩ = some (.slice (some ⟨b, off, none⟩) 2 bc) := (HQ0.out.cell 3)
  have fa4 : w0.drew.cell? ⟨b, off, none⟩ = some (.int .i64 o1.kind) := (y00)
  have fa5 : w0.drew.cell? ⟨b, off + 1, none⟩ = some (.string o1.name) := (y01)
  have fa6 : w0.drew.cell? ⟨b, off + 2, none⟩ = some (.int .i64 o1.num) := (y02)
  have fa7 : w0.drew.cell? ⟨b, off + 3, none⟩ = some (.slice B1 o1.args.length bc1) := (y03)
  have fa8 : w0.drew.cell? ⟨b, off + 4, none⟩ = some (.int .i64 o2.kind) := (y10)
  have fa9 : w0.drew.cell? ⟨b, off + 4 + 1, none⟩ = some (.string o2.name) := (y11)
  have fa10 : w0.drew.cell? ⟨b, off + 4 + 2, none⟩ = some (.int .i64 o2.num) := (y12)
  have fa11 : w0.drew.cell? ⟨b, off + 4 + 3, none⟩ = some (.slice B2 o2.args.length bc2) := (y13)
  go_region_held3 (fun x' : World => x'.cell? ⟨w.heap.size, 0, none⟩ = some (.int .i64 s.kind) ∧ x'.cell? ⟨w.heap.size, 1, none⟩ = some (.slice L s.labels.length lc) ∧ x'.cell? ⟨w.heap.size, 2, none⟩ = some (.slice A s.args.length ac) ∧ x'.cell? ⟨w.heap.size + 1, 3, none⟩ = some (.slice (some ⟨b, off, none⟩) 2 bc) ∧ x'.cell? ⟨b, off, none⟩ = some (.int .i64 o1.kind) ∧ x'.cell? ⟨b, off + 1, none⟩ = some (.string o1.name) ∧ x'.cell? ⟨b, off + 2, none⟩ = some (.int .i64 o1.num) ∧ x'.cell? ⟨b, off + 3, none⟩ = some (.slice B1 o1.args.length bc1) ∧ x'.cell? ⟨b, off + 4, none⟩ = some (.int .i64 o2.kind) ∧ x'.cell? ⟨b, off + 4 + 1, none⟩ = some (.string o2.name) ∧ x'.cell? ⟨b, off + 4 + 2, none⟩ = some (.int .i64 o2.num) ∧ x'.cell? ⟨b, off + 4 + 3, none⟩ = some (.slice B2 o2.args.length bc2)) (first | with_reducible exact ⟨fa0, fa1, fa2, fa3, fa4, fa5, fa6, fa7, fa8, fa9, fa10, fa11⟩ | with_reducible exact ⟨fk0, fk1, fk2, fk3, fk4, fk5, fk6, fk7, fk8, fk9, fk10, fk11⟩ | with_reducible exact ⟨fl0, fl1, fl2, fl3, fl4, fl5, fl6, fl7, fl8, fl9, fl10, fl11⟩ | go_keep) (first | (go_simp; go_at_call 119; (with_reducible refine (HC.out).mono ?_); rintro e w9 ⟨L9, lc9, A9, ac9, t9, k9, x9, rfl, hv9, hb9', hs9, hor9⟩; have hb9 := (Below.refl w0.heap.size w0).drew.trans hb9'; have fk0 : w9.cell? ⟨w.heap.size, 0, none⟩ = some (.int .i64 s.kind) := (hb9.cell (p := ⟨w.heap.size, 0, none⟩) hpl).trans (HP0.out.cell 0); have fl0 : ((((w9.setCell ⟨w.heap.size + 1 + 1, 0, none⟩ (.int .i64 t9.kind)).setCell ⟨w.heap.size + 1 + 1, 1, none⟩ (.slice L9 t9.labels.length lc9)).setCell ⟨w.heap.size + 1 + 1, 2, none⟩ (.slice A9 t9.args.length ac9)).setCell ⟨w.heap.size + 1 + 1, 3, none⟩ (.int .i64 k9)).cell? ⟨w.heap.size, 0, none⟩ = some (.int .i64 s.kind) := typ_far _ _ _ _ _ fk0 (hnp); have fk1 : w9.cell? ⟨w.heap.size, 1, none⟩ = some (.slice L s.labels.length lc) := (hb9.cell (p := ⟨w.heap.size, 1, none⟩) hpl).trans (HP0.out.cell 1); have fl1 : ((((w9.setCell ⟨w.heap.size + 1 + 1, 0, none⟩ (.int .i64 t9.kind)).setCell ⟨w.heap.size + 1 + 1, 1, none⟩ (.slice L9 t9.labels.length lc9)).setCell ⟨w.heap.size + 1 + 1, 2, none⟩ (.slice A9 t9.args.length ac9)).setCell ⟨w.heap.size + 1 + 1, 3, none⟩ (.int .i64 k9)).cell? ⟨w.heap.size, 1, none⟩ = some (.slice L s.labels.length lc) := typ_far _ _ _ _ _ fk1 (hnp); have fk2 : w9.cell? ⟨w.heap.size, 2, none⟩ = some (.slice A s.args.length ac) := (hb9.cell (p := ⟨w.heap.size, 2, none⟩) hpl).trans (HP0.out.cell 2); have fl2 : ((((w9.setCell ⟨w.heap.size + 1 + 1, 0, none⟩ (.int .i64 t9.kind)).setCell ⟨w.heap.size + 1 + 1, 1, none⟩ (.slice L9 t9.labels.length lc9)).setCell ⟨w.heap.size + 1 + 1, 2, none⟩ (.slice A9 t9.args.length ac9)).setCell ⟨w.heap.size + 1 + 1, 3, none⟩ (.int .i64 k9)).cell? ⟨w.heap.size, 2, none⟩ = some (.slice A s.args.length ac) := typ_far _ _ _ _ _ fk2 (hnp); have fk3 : w9.cell? ⟨w.heap.size + 1, 3, none⟩ = some (.slice (some ⟨b, off, none⟩) 2 bc) := (hb9.cell (p := ⟨w.heap.size + 1, 3, none⟩) hql).trans (HQ0.out.cell 3); have fl3 : ((((w9.setCell ⟨w.heap.size + 1 + 1, 0, none⟩ (.int .i64 t9.kind)).setCell ⟨w.heap.size + 1 + 1, 1, none⟩ (.slice L9 t9.labels.length lc9)).setCell ⟨w.heap.size + 1 + 1, 2, none⟩ (.slice A9 t9.args.length ac9)).setCell ⟨w.heap.size + 1 + 1, 3, none⟩ (.int .i64 k9)).cell? ⟨w.heap.size + 1, 3, none⟩ = some (.slice (some ⟨b, off, none⟩) 2 bc) := typ_far _ _ _ _ _ fk3 (hnq); have fk4 : w9.cell? ⟨b, off, none⟩ = some (.int .i64 o1.kind) := (hb9.cell (p := ⟨b, off, none⟩) hbl).trans (y00); have fl4 : ((((w9.setCell ⟨w.heap.size + 1 + 1, 0, none⟩ (.int .i64 t9.kind)).setCell ⟨w.heap.size + 1 + 1, 1, none⟩ (.slice L9 t9.labels.length lc9)).setCell ⟨w.heap.size + 1 + 1, 2, none⟩ (.slice A9 t9.args.length ac9)).setCell ⟨w.heap.size + 1 + 1, 3, none⟩ (.int .i64 k9)).cell? ⟨b, off, none⟩ = some (.int .i64 o1.kind) := typ_far _ _ _ _ _ fk4 (hne); have fk5 : w9.cell? ⟨b, off + 1, none⟩ = some (.string o1.name) := (hb9.cell (p := ⟨b, off + 1, none⟩) hbl).trans (y01); have fl5 : ((((w9.setCell ⟨w.heap.size + 1 + 1, 0, none⟩ (.int .i64 t9.kind)).setCell ⟨w.heap.size + 1 + 1, 1, none⟩ (.slice L9 t9.labels.length lc9)).setCell ⟨w.heap.size + 1 + 1, 2, none⟩ (.slice A9 t9.args.length ac9)).setCell ⟨w.heap.size + 1 + 1, 3, none⟩ (.int .i64 k9)).cell? ⟨b, off + 1, none⟩ = some (.string o1.name) := typ_far _ _ _ _ _ fk5 (hne); have fk6 : w9.cell? ⟨b, off + 2, none⟩ = some (.int .i64 o1.num) := (hb9.cell (p := ⟨b, off + 2, none⟩) hbl).trans (y02); have fl6 : ((((w9.setCell ⟨w.heap.size + 1 + 1, 0, none⟩ (.int .i64 t9.kind)).setCell ⟨w.heap.size + 1 + 1, 1, none⟩ (.slice L9 t9.labels.length lc9)).setCell ⟨w.heap.size + 1 + 1, 2, none⟩ (.slice A9 t9.args.length ac9)).setCell ⟨w.heap.size + 1 + 1, 3, none⟩ (.int .i64 k9)).cell? ⟨b, off + 2, none⟩ = some (.int .i64 o1.num) := typ_far _ _ _ _ _ fk6 (hne); have fk7 : w9.cell? ⟨b, off + 3, none⟩ = some (.slice B1 o1.args.length bc1) := (hb9.cell (p := ⟨b, off + 3, none⟩) hbl).trans (y03); have fl7 : ((((w9.setCell ⟨w.heap.size + 1 + 1, 0, none⟩ (.int .i64 t9.kind)).setCell ⟨w.heap.size + 1 + 1, 1, none⟩ (.slice L9 t9.labels.length lc9)).setCell ⟨w.heap.size + 1 + 1, 2, none⟩ (.slice A9 t9.args.length ac9)).setCell ⟨w.heap.size + 1 + 1, 3, none⟩ (.int .i64 k9)).cell? ⟨b, off + 3, none⟩ = some (.slice B1 o1.args.length bc1) := typ_far _ _ _ _ _ fk7 (hne); have fk8 : w9.cell? ⟨b, off + 4, none⟩ = some (.int .i64 o2.kind) := (hb9.cell (p := ⟨b, off + 4, none⟩) hbl).trans (y10); have fl8 : ((((w9.setCell ⟨w.heap.size + 1 + 1, 0, none⟩ (.int .i64 t9.kind)).setCell ⟨w.heap.size + 1 + 1, 1, none⟩ (.slice L9 t9.labels.length lc9)).setCell ⟨w.heap.size + 1 + 1, 2, none⟩ (.slice A9 t9.args.length ac9)).setCell ⟨w.heap.size + 1 + 1, 3, none⟩ (.int .i64 k9)).cell? ⟨b, off + 4, none⟩ = some (.int .i64 o2.kind) := typ_far _ _ _ _ _ fk8 (hne); have fk9 : w9.cell? ⟨b, off + 4 + 1, none⟩ = some (.string o2.name) := (hb9.cell (p := ⟨b, off + 4 + 1, none⟩) hbl).trans (y11); have fl9 : ((((w9.setCell ⟨w.heap.size + 1 + 1, 0, none⟩ (.int .i64 t9.kind)).setCell ⟨w.heap.size + 1 + 1, 1, none⟩ (.slice L9 t9.labels.length lc9)).setCell ⟨w.heap.size + 1 + 1, 2, none⟩ (.slice A9 t9.args.length ac9)).setCell ⟨w.heap.size + 1 + 1, 3, none⟩ (.int .i64 k9)).cell? ⟨b, off + 4 + 1, none⟩ = some (.string o2.name) := typ_far _ _ _ _ _ fk9 (hne); have fk10 : w9.cell? ⟨b, off + 4 + 2, none⟩ = some (.int .i64 o2.num) := (hb9.cell (p := ⟨b, off + 4 + 2, none⟩) hbl).trans (y12); have fl10 : ((((w9.setCell ⟨w.heap.size + 1 + 1, 0, none⟩ (.int .i64 t9.kind)).setCell ⟨w.heap.size + 1 + 1, 1, none⟩ (.slice L9 t9.labels.length lc9)).setCell ⟨w.heap.size + 1 + 1, 2, none⟩ (.slice A9 t9.args.length ac9)).setCell ⟨w.heap.size + 1 + 1, 3, none⟩ (.int .i64 k9)).cell? ⟨b, off + 4 + 2, none⟩ = some (.int .i64 o2.num) := typ_far _ _ _ _ _ fk10 (hne); have fk11 : w9.cell? ⟨b, off + 4 + 3, none⟩ = some (.slice B2 o2.args.length bc2) := (hb9.cell (p := ⟨b, off + 4 + 3, none⟩) hbl).trans (y13); have fl11 : ((((w9.setCell ⟨w.heap.size + 1 + 1, 0, none⟩ (.int .i64 t9.kind)).setCell ⟨w.heap.size + 1 + 1, 1, none⟩ (.slice L9 t9.labels.length lc9)).setCell ⟨w.heap.size + 1 + 1, 2, none⟩ (.slice A9 t9.args.length ac9)).setCell ⟨w.heap.size + 1 + 1, 3, none⟩ (.int .i64 k9)).cell? ⟨b, off + 4 + 3, none⟩ = some (.slice B2 o2.args.length bc2) := typ_far _ _ _ _ _ fk11 (hne); have z9 := HZ0.out.below hb9 HZ0.out.lt; have d0 : w9.cell? ⟨w.heap.size + 1 + 1, 0, none⟩ = some (.int .i64 0) := z9.cell 0; have df0 : w9.frozen? ⟨w.heap.size + 1 + 1, 0, none⟩ = false := z9.free 0; have d1 : w9.cell? ⟨w.heap.size + 1 + 1, 1, none⟩ = some (.slice none 0 0) := z9.cell 1; have df1 : w9.frozen? ⟨w.heap.size + 1 + 1, 1, none⟩ = false := z9.free 1; have d2 : w9.cell? ⟨w.heap.size + 1 + 1, 2, none⟩ = some (.slice none 0 0) := z9.cell 2; have df2 : w9.frozen? ⟨w.heap.size + 1 + 1, 2, none⟩ = false := z9.free 2; have d3 : w9.cell? ⟨w.heap.size + 1 + 1, 3, none⟩ = some (.int .i64 0) := z9.cell 3; have df3 : w9.frozen? ⟨w.heap.size + 1 + 1, 3, none⟩ = false := z9.free 3; have HF := Lib.hid (fun a b c d => typ_fin (r := r) (show w.heap.size ≤ w.heap.size + 1 + 1 by omega) (HB0.out.trans (hb9.mono HB0.out.size)) hv9 hs9 hor9 a b c d); clear hv9 hs9 hor9; clear hb9' hb9 z9))
  all_goals go_wp2
  all_goals exact bodyPost_ret (v := .tuple #[.agg #[.int .i64 t9.kind, .slice L9 t9.labels.length lc9, .slice A9 t9.args.length ac9, .int .i64 k9], x9]) (by simp [results, Tryz.results98, go_sem, d0, d1, d2, d3]) rfl (HF.out _ _ _ _)

set_option maxHeartbeats 4000000 in
theorem typKind_none (k0 : Int) (i1 : (k0 == 1) = false) (i2 : (k0 == 2) = false) (i3 : (k0 == 3) = false) (i4 : (k0 == 4) = false) (i5 : (k0 == 5) = false) (i6 : (k0 == 6) = false) (i7 : (k0 == 7) = false) (i8 : (k0 == 8) = false) (i9 : (k0 == 9) = false) (i10 : (k0 == 10) = false) (i11 : (k0 == 11) = false) (i12 : (k0 == 12) = false) (i13 : (k0 == 13) = false) (n0 : Int) (nm : ByteArray) (ts : List Ot) (B : Option Addr) (bc : Nat) {N : Nat → Prop} {u : Value} {r : Option (Ty × Int)} (s : Ty) (sv : Value) (w : World) (hN : ∀ b, N b → b < w.heap.size) (hU : UnfitAt w u) (hJ : JoinsAt w) (hv : OwnA N w sv s) (ho : OtAt w w.heap.size (.agg #[.int .i64 k0, .string nm, .int .i64 n0, .slice B ts.length bc]) (.mk k0 n0 nm ts)) (hval : validB s = true) (hf : formOt (.mk k0 n0 nm ts) = true) (hz : szOt (.mk k0 n0 nm ts) ≤ 1048576) (hr : r = none) :
    Calls Tryz.prog 98 #[sv, .agg #[.int .i64 k0, .string nm, .int .i64 n0, .slice B ts.length bc]] w (TypPost N u r w) := by
  have hnm := form_name hf
  have hse := szTy_valid hval
  obtain ⟨L, lc, A, ac, rfl⟩ := hv.open
  obtain ⟨hb0, p0, q0, zz0, hs0⟩ := boxes3 w 27 30 60 #[.int .i64 s.kind, .slice L s.labels.length lc, .slice A s.args.length ac] #[.int .i64 k0, .string nm, .int .i64 n0, .slice B ts.length bc] #[.int .i64 0, .slice none 0 0, .slice none 0 0, .int .i64 0]
  have HV0 := Lib.hid ((hv.late (w.heap.size + 1 + 1) (by omega)).up hb0)
  have HO0 := Lib.hid (ho.up hb0)
  have HN0 := Lib.hid (show ∀ b, (N b ∨ b = w.heap.size + 1 + 1) → b < (((w.alloc (.cells #[.int .i64 s.kind, .slice L s.labels.length lc, .slice A s.args.length ac] 27)).alloc (.cells #[.int .i64 k0, .string nm, .int .i64 n0, .slice B ts.length bc] 30)).alloc (.cells #[.int .i64 0, .slice none 0 0, .slice none 0 0, .int .i64 0] 60)).heap.size from fun b hb => hb.elim (fun hb => Nat.lt_of_lt_of_le (hN b hb) hb0.size) (fun e => e ▸ zz0.lt))
  have HU0 := Lib.hid (hU.below hb0)
  have HJ0 := Lib.hid (hJ.below hb0)
  obtain ⟨hug, huc, ua, rfl⟩ := hU
  have HR := Lib.hid hr
  have HB0 := Lib.hid hb0
  have HZ0 := Lib.hid zz0
  have HP0 := Lib.hid p0
  have HQ0 := Lib.hid q0
  have HZZ := Lib.hid hz
  have HFO := Lib.hid hf
  have HOW := Lib.hid ho
  clear hv hN hr hJ hug huc ho hb0 zz0 p0 q0 hs0 hz hf
  go_enter Tryz.func98, Tryz.ntmps98
  go_upto_region 1 with fail
  generalize ((w.alloc (.cells #[.int .i64 s.kind, .slice L s.labels.length lc, .slice A s.args.length ac] 27)).alloc (.cells #[.int .i64 k0, .string nm, .int .i64 n0, .slice B ts.length bc] 30)).alloc (.cells #[.int .i64 0, .slice none 0 0, .slice none 0 0, .int .i64 0] 60) = w0 at *
  have sp0 : w0.cell? ⟨w.heap.size, 0, none⟩ = some (.int .i64 s.kind) := HP0.out.cell 0
  have sp1 : w0.cell? ⟨w.heap.size, 1, none⟩ = some (.slice L s.labels.length lc) := HP0.out.cell 1
  have sp2 : w0.cell? ⟨w.heap.size, 2, none⟩ = some (.slice A s.args.length ac) := HP0.out.cell 2
  have qo0 : w0.cell? ⟨w.heap.size + 1, 0, none⟩ = some (.int .i64 k0) := HQ0.out.cell 0
  have qo1 : w0.cell? ⟨w.heap.size + 1, 1, none⟩ = some (.string nm) := HQ0.out.cell 1
  have qo2 : w0.cell? ⟨w.heap.size + 1, 2, none⟩ = some (.int .i64 n0) := HQ0.out.cell 2
  have qo3 : w0.cell? ⟨w.heap.size + 1, 3, none⟩ = some (.slice B ts.length bc) := HQ0.out.cell 3
  have HRN := HR
  clear hval hse hnm sp0 sp1 sp2
  have d0 : w0.cell? ⟨w.heap.size + 1 + 1, 0, none⟩ = some (.int .i64 0) := HZ0.out.cell 0
  have df0 : w0.frozen? ⟨w.heap.size + 1 + 1, 0, none⟩ = false := HZ0.out.free 0
  have d1 : w0.cell? ⟨w.heap.size + 1 + 1, 1, none⟩ = some (.slice none 0 0) := HZ0.out.cell 1
  have df1 : w0.frozen? ⟨w.heap.size + 1 + 1, 1, none⟩ = false := HZ0.out.free 1
  have d2 : w0.cell? ⟨w.heap.size + 1 + 1, 2, none⟩ = some (.slice none 0 0) := HZ0.out.cell 2
  have df2 : w0.frozen? ⟨w.heap.size + 1 + 1, 2, none⟩ = false := HZ0.out.free 2
  have d3 : w0.cell? ⟨w.heap.size + 1 + 1, 3, none⟩ = some (.int .i64 0) := HZ0.out.cell 3
  have df3 : w0.frozen? ⟨w.heap.size + 1 + 1, 3, none⟩ = false := HZ0.out.free 3
  have e0 : w0.drew.cell? ⟨w.heap.size + 1 + 1, 0, none⟩ = some (.int .i64 0) := d0
  have ef0 : w0.drew.frozen? ⟨w.heap.size + 1 + 1, 0, none⟩ = false := df0
  have e1 : w0.drew.cell? ⟨w.heap.size + 1 + 1, 1, none⟩ = some (.slice none 0 0) := d1
  have ef1 : w0.drew.frozen? ⟨w.heap.size + 1 + 1, 1, none⟩ = false := df1
  have e2 : w0.drew.cell? ⟨w.heap.size + 1 + 1, 2, none⟩ = some (.slice none 0 0) := d2
  have ef2 : w0.drew.frozen? ⟨w.heap.size + 1 + 1, 2, none⟩ = false := df2
  have e3 : w0.drew.cell? ⟨w.heap.size + 1 + 1, 3, none⟩ = some (.int .i64 0) := d3
  have ef3 : w0.drew.frozen? ⟨w.heap.size + 1 + 1, 3, none⟩ = false := df3
  have hu0 : w0.cell? ⟨0, 0, none⟩ = some (.iface 195 (.pointer (some ua))) := HU0.out.2.1
  have hud : w0.drew.cell? ⟨0, 0, none⟩ = some (.iface 195 (.pointer (some ua))) := hu0
  have HF := Lib.hid (typ_none (N := N) (u := (.iface 195 (.pointer (some ua)))) HB0.out HRN.out)
  have HG := Lib.hid (fun a b c d => typ_drew ((typ_none4 (N := N) (u := (.iface 195 (.pointer (some ua)))) (show w.heap.size ≤ w.heap.size + 1 + 1 by omega) HB0.out HRN.out a b c d)))
  go_wp2
  go_region
  go_wp2
  first | exact bodyPost_ret (v := .tuple #[.agg #[.int .i64 0, .slice none 0 0, .slice none 0 0, .int .i64 0], .iface 195 (.pointer (some ua))]) (by simp [results, Tryz.results98, go_sem, d0, d1, d2, d3, e0, e1, e2, e3]) rfl HF.out | exact bodyPost_ret (v := .tuple #[.agg #[.int .i64 0, .slice none 0 0, .slice none 0 0, .int .i64 0], .iface 195 (.pointer (some ua))]) (by simp [results, Tryz.results98, go_sem, d0, d1, d2, d3, e0, e1, e2, e3]) rfl (HG.out _ _ _ _)

end Go.Proofs.YthdfidhijmcbdaaGreatDoor
end
