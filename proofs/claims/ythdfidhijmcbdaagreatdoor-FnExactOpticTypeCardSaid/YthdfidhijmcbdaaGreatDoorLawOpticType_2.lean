/- Lemmas: TypKindA, TypKindB, Typ, TypIs, ImplTyped. -/
import Derived.Test.YthdfidhijmcbdaaGreatDoorLawOpticType_1
import Derived.Test.YthdfidhijmcbdaaGreatDoorImplValid
import Derived.LaidEql
import Derived.Stop.Asserts
import Derived.RowKitTokens
import Derived.Test.YthdfidhijmcbdaaGreatDoorImplOForm
import Derived.Test.YthdfidhijmcbdaaGreatDoorCopyTy

section
namespace Go.Proofs.YthdfidhijmcbdaaGreatDoor
set_option maxRecDepth 100000
set_option linter.unusedSimpArgs false
open Go.RowKit
attribute [local go_sem ↓] Go.wp_at_zero Go.wp_at_succ

set_option maxHeartbeats 4000000 in
theorem typKind_id (n0 : Int) (nm : ByteArray) (ts : List Ot) (B : Option Addr) (bc : Nat) {N : Nat → Prop} {u : Value} {r : Option (Ty × Int)} (s : Ty) (sv : Value) (w : World) (hN : ∀ b, N b → b < w.heap.size) (hU : UnfitAt w u) (hJ : JoinsAt w) (hv : OwnA N w sv s) (ho : OtAt w w.heap.size (.agg #[.int .i64 1, .string nm, .int .i64 n0, .slice B ts.length bc]) (.mk 1 n0 nm ts)) (hval : validB s = true) (hf : formOt (.mk 1 n0 nm ts) = true) (hz : szOt (.mk 1 n0 nm ts) ≤ 1048576) (hr : r = leafO 1 nm s) :
    Calls Tryz.prog 98 #[sv, .agg #[.int .i64 1, .string nm, .int .i64 n0, .slice B ts.length bc]] w (TypPost N u r w) := by
  have hnm := form_name hf
  have hse := szTy_valid hval
  obtain ⟨L, lc, A, ac, rfl⟩ := hv.open
  obtain ⟨hb0, p0, q0, zz0, hs0⟩ := boxes3 w 27 30 60 #[.int .i64 s.kind, .slice L s.labels.length lc, .slice A s.args.length ac] #[.int .i64 1, .string nm, .int .i64 n0, .slice B ts.length bc] #[.int .i64 0, .slice none 0 0, .slice none 0 0, .int .i64 0]
  have HV0 := Lib.hid ((hv.late (w.heap.size + 1 + 1) (by omega)).up hb0)
  have HO0 := Lib.hid (ho.up hb0)
  have HN0 := Lib.hid (show ∀ b, (N b ∨ b = w.heap.size + 1 + 1) → b < (((w.alloc (.cells #[.int .i64 s.kind, .slice L s.labels.length lc, .slice A s.args.length ac] 27)).alloc (.cells #[.int .i64 1, .string nm, .int .i64 n0, .slice B ts.length bc] 30)).alloc (.cells #[.int .i64 0, .slice none 0 0, .slice none 0 0, .int .i64 0] 60)).heap.size from fun b hb => hb.elim (fun hb => Nat.lt_of_lt_of_le (hN b hb) hb0.size) (fun e => e ▸ zz0.lt))
  have HU0 := Lib.hid (hU.below hb0)
  have HJ0 := Lib.hid (hJ.below hb0)
  obtain ⟨hug, huc, ua, rfl⟩ := hU
  have HR := Lib.hid hr
  have HB0 := Lib.hid hb0
  have HZ0 := Lib.hid zz0
  have HP0 := Lib.hid p0
  have HQ0 := Lib.hid q0
  have HZZ := Lib.hid hz
  have HFO := Lib.hid hf
  have HOW := Lib.hid ho
  clear hv hN hr hJ hug huc ho hb0 zz0 p0 q0 hs0 hz hf
  go_enter Tryz.func98, Tryz.ntmps98
  go_upto_region 1 with fail
  generalize ((w.alloc (.cells #[.int .i64 s.kind, .slice L s.labels.length lc, .slice A s.args.length ac] 27)).alloc (.cells #[.int .i64 1, .string nm, .int .i64 n0, .slice B ts.length bc] 30)).alloc (.cells #[.int .i64 0, .slice none 0 0, .slice none 0 0, .int .i64 0] 60) = w0 at *
  have sp0 : w0.cell? ⟨w.heap.size, 0, none⟩ = some (.int .i64 s.kind) := HP0.out.cell 0
  have sp1 : w0.cell? ⟨w.heap.size, 1, none⟩ = some (.slice L s.labels.length lc) := HP0.out.cell 1
  have sp2 : w0.cell? ⟨w.heap.size, 2, none⟩ = some (.slice A s.args.length ac) := HP0.out.cell 2
  have qo0 : w0.cell? ⟨w.heap.size + 1, 0, none⟩ = some (.int .i64 1) := HQ0.out.cell 0
  have qo1 : w0.cell? ⟨w.heap.size + 1, 1, none⟩ = some (.string nm) := HQ0.out.cell 1
  have qo2 : w0.cell? ⟨w.heap.size + 1, 2, none⟩ = some (.int .i64 n0) := HQ0.out.cell 2
  have qo3 : w0.cell? ⟨w.heap.size + 1, 3, none⟩ = some (.slice B ts.length bc) := HQ0.out.cell 3
  have HF := Lib.hid (fun a b c d => typ_fin (r := r) (u := (.iface 195 (.pointer (some ua)))) (kd := 1) (show w.heap.size ≤ w.heap.size + 1 + 1 by omega) HB0.out HV0.out (by omega) (.inr ⟨HR.out.trans (by simp [leafO]), rfl⟩) a b c d)
  have d0 : w0.cell? ⟨w.heap.size + 1 + 1, 0, none⟩ = some (.int .i64 0) := HZ0.out.cell 0
  have df0 : w0.frozen? ⟨w.heap.size + 1 + 1, 0, none⟩ = false := HZ0.out.free 0
  have d1 : w0.cell? ⟨w.heap.size + 1 + 1, 1, none⟩ = some (.slice none 0 0) := HZ0.out.cell 1
  have df1 : w0.frozen? ⟨w.heap.size + 1 + 1, 1, none⟩ = false := HZ0.out.free 1
  have d2 : w0.cell? ⟨w.heap.size + 1 + 1, 2, none⟩ = some (.slice none 0 0) := HZ0.out.cell 2
  have df2 : w0.frozen? ⟨w.heap.size + 1 + 1, 2, none⟩ = false := HZ0.out.free 2
  have d3 : w0.cell? ⟨w.heap.size + 1 + 1, 3, none⟩ = some (.int .i64 0) := HZ0.out.cell 3
  have df3 : w0.frozen? ⟨w.heap.size + 1 + 1, 3, none⟩ = false := HZ0.out.free 3
  clear hval hse hnm
  go_wp2
  exact bodyPost_ret (v := .tuple #[.agg #[.int .i64 s.kind, .slice L s.labels.length lc, .slice A s.args.length ac, .int .i64 1], .nilIface]) (by simp [results, Tryz.results98, go_sem, d0, d1, d2, d3]) rfl (HF.out _ _ _ _)

set_option maxHeartbeats 4000000 in
theorem typKind_field (n0 : Int) (nm : ByteArray) (ts : List Ot) (B : Option Addr) (bc : Nat) {N : Nat → Prop} {u : Value} {r : Option (Ty × Int)} (s : Ty) (sv : Value) (w : World) (hN : ∀ b, N b → b < w.heap.size) (hU : UnfitAt w u) (hJ : JoinsAt w) (hv : OwnA N w sv s) (ho : OtAt w w.heap.size (.agg #[.int .i64 2, .string nm, .int .i64 n0, .slice B ts.length bc]) (.mk 2 n0 nm ts)) (hval : validB s = true) (hf : formOt (.mk 2 n0 nm ts) = true) (hz : szOt (.mk 2 n0 nm ts) ≤ 1048576) (hr : r = leafO 2 nm s) :
    Calls Tryz.prog 98 #[sv, .agg #[.int .i64 2, .string nm, .int .i64 n0, .slice B ts.length bc]] w (TypPost N u r w) := by
  have hnm := form_name hf
  have hse := szTy_valid hval
  obtain ⟨L, lc, A, ac, rfl⟩ := hv.open
  obtain ⟨hb0, p0, q0, zz0, hs0⟩ := boxes3 w 27 30 60 #[.int .i64 s.kind, .slice L s.labels.length lc, .slice A s.args.length ac] #[.int .i64 2, .string nm, .int .i64 n0, .slice B ts.length bc] #[.int .i64 0, .slice none 0 0, .slice none 0 0, .int .i64 0]
  have HV0 := Lib.hid ((hv.late (w.heap.size + 1 + 1) (by omega)).up hb0)
  have HO0 := Lib.hid (ho.up hb0)
  have HN0 := Lib.hid (show ∀ b, (N b ∨ b = w.heap.size + 1 + 1) → b < (((w.alloc (.cells #[.int .i64 s.kind, .slice L s.labels.length lc, .slice A s.args.length ac] 27)).alloc (.cells #[.int .i64 2, .string nm, .int .i64 n0, .slice B ts.length bc] 30)).alloc (.cells #[.int .i64 0, .slice none 0 0, .slice none 0 0, .int .i64 0] 60)).heap.size from fun b hb => hb.elim (fun hb => Nat.lt_of_lt_of_le (hN b hb) hb0.size) (fun e => e ▸ zz0.lt))
  have HU0 := Lib.hid (hU.below hb0)
  have HJ0 := Lib.hid (hJ.below hb0)
  obtain ⟨hug, huc, ua, rfl⟩ := hU
  have HR := Lib.hid hr
  have HB0 := Lib.hid hb0
  have HZ0 := Lib.hid zz0
  have HP0 := Lib.hid p0
  have HQ0 := Lib.hid q0
  have HZZ := Lib.hid hz
  have HFO := Lib.hid hf
  have HOW := Lib.hid ho
  clear hv hN hr hJ hug huc ho hb0 zz0 p0 q0 hs0 hz hf
  go_enter Tryz.func98, Tryz.ntmps98
  go_upto_region 1 with fail
  generalize ((w.alloc (.cells #[.int .i64 s.kind, .slice L s.labels.length lc, .slice A s.args.length ac] 27)).alloc (.cells #[.int .i64 2, .string nm, .int .i64 n0, .slice B ts.length bc] 30)).alloc (.cells #[.int .i64 0, .slice none 0 0, .slice none 0 0, .int .i64 0] 60) = w0 at *
  have sp0 : w0.cell? ⟨w.heap.size, 0, none⟩ = some (.int .i64 s.kind) := HP0.out.cell 0
  have sp1 : w0.cell? ⟨w.heap.size, 1, none⟩ = some (.slice L s.labels.length lc) := HP0.out.cell 1
  have sp2 : w0.cell? ⟨w.heap.size, 2, none⟩ = some (.slice A s.args.length ac) := HP0.out.cell 2
  have qo0 : w0.cell? ⟨w.heap.size + 1, 0, none⟩ = some (.int .i64 2) := HQ0.out.cell 0
  have qo1 : w0.cell? ⟨w.heap.size + 1, 1, none⟩ = some (.string nm) := HQ0.out.cell 1
  have qo2 : w0.cell? ⟨w.heap.size + 1, 2, none⟩ = some (.int .i64 n0) := HQ0.out.cell 2
  have qo3 : w0.cell? ⟨w.heap.size + 1, 3, none⟩ = some (.slice B ts.length bc) := HQ0.out.cell 3
  have HC := Lib.hid (typPart_any (N := fun b => N b ∨ b = w.heap.size + 1 + 1) (u := (.iface 195 (.pointer (some ua)))) (r := r) s _ 3 nm 2 w0 HN0.out HU0.out HV0.out hval (HR.out.trans (by simp [leafO])))
  clear hval hse hnm
  go_wp2_with fail
  refine HC.out.mono ?_
  rintro e w1 ⟨L1, lc1, A1, ac1, t1, k1, x1, rfl, hv1, hb1, hs1, hor1⟩
  have HF := Lib.hid (fun a b c d => typ_fin (r := r) (show w.heap.size ≤ w.heap.size + 1 + 1 by omega) (HB0.out.trans (hb1.mono HB0.out.size)) hv1 hs1 hor1 a b c d)
  have z1 := HZ0.out.below hb1 HZ0.out.lt
  have d0 : w1.cell? ⟨w.heap.size + 1 + 1, 0, none⟩ = some (.int .i64 0) := z1.cell 0
  have df0 : w1.frozen? ⟨w.heap.size + 1 + 1, 0, none⟩ = false := z1.free 0
  have d1 : w1.cell? ⟨w.heap.size + 1 + 1, 1, none⟩ = some (.slice none 0 0) := z1.cell 1
  have df1 : w1.frozen? ⟨w.heap.size + 1 + 1, 1, none⟩ = false := z1.free 1
  have d2 : w1.cell? ⟨w.heap.size + 1 + 1, 2, none⟩ = some (.slice none 0 0) := z1.cell 2
  have df2 : w1.frozen? ⟨w.heap.size + 1 + 1, 2, none⟩ = false := z1.free 2
  have d3 : w1.cell? ⟨w.heap.size + 1 + 1, 3, none⟩ = some (.int .i64 0) := z1.cell 3
  have df3 : w1.frozen? ⟨w.heap.size + 1 + 1, 3, none⟩ = false := z1.free 3
  clear hv1 hs1 hor1 hb1 z1 HC sp0 sp1 sp2 qo0 qo1 qo2 qo3
  go_wp2
  exact bodyPost_ret (v := .tuple #[.agg #[.int .i64 t1.kind, .slice L1 t1.labels.length lc1, .slice A1 t1.args.length ac1, .int .i64 k1], x1]) (by simp [results, Tryz.results98, go_sem, d0, d1, d2, d3]) rfl (HF.out _ _ _ _)

set_option maxHeartbeats 4000000 in
theorem typKind_case (n0 : Int) (nm : ByteArray) (ts : List Ot) (B : Option Addr) (bc : Nat) {N : Nat → Prop} {u : Value} {r : Option (Ty × Int)} (s : Ty) (sv : Value) (w : World) (hN : ∀ b, N b → b < w.heap.size) (hU : UnfitAt w u) (hJ : JoinsAt w) (hv : OwnA N w sv s) (ho : OtAt w w.heap.size (.agg #[.int .i64 3, .string nm, .int .i64 n0, .slice B ts.length bc]) (.mk 3 n0 nm ts)) (hval : validB s = true) (hf : formOt (.mk 3 n0 nm ts) = true) (hz : szOt (.mk 3 n0 nm ts) ≤ 1048576) (hr : r = leafO 3 nm s) :
    Calls Tryz.prog 98 #[sv, .agg #[.int .i64 3, .string nm, .int .i64 n0, .slice B ts.length bc]] w (TypPost N u r w) := by
  have hnm := form_name hf
  have hse := szTy_valid hval
  obtain ⟨L, lc, A, ac, rfl⟩ := hv.open
  obtain ⟨hb0, p0, q0, zz0, hs0⟩ := boxes3 w 27 30 60 #[.int .i64 s.kind, .slice L s.labels.length lc, .slice A s.args.length ac] #[.int .i64 3, .string nm, .int .i64 n0, .slice B ts.length bc] #[.int .i64 0, .slice none 0 0, .slice none 0 0, .int .i64 0]
  have HV0 := Lib.hid ((hv.late (w.heap.size + 1 + 1) (by omega)).up hb0)
  have HO0 := Lib.hid (ho.up hb0)
  have HN0 := Lib.hid (show ∀ b, (N b ∨ b = w.heap.size + 1 + 1) → b < (((w.alloc (.cells #[.int .i64 s.kind, .slice L s.labels.length lc, .slice A s.args.length ac] 27)).alloc (.cells #[.int .i64 3, .string nm, .int .i64 n0, .slice B ts.length bc] 30)).alloc (.cells #[.int .i64 0, .slice none 0 0, .slice none 0 0, .int .i64 0] 60)).heap.size from fun b hb => hb.elim (fun hb => Nat.lt_of_lt_of_le (hN b hb) hb0.size) (fun e => e ▸ zz0.lt))
  have HU0 := Lib.hid (hU.below hb0)
  have HJ0 := Lib.hid (hJ.below hb0)
  obtain ⟨hug, huc, ua, rfl⟩ := hU
  have HR := Lib.hid hr
  have HB0 := Lib.hid hb0
  have HZ0 := Lib.hid zz0
  have HP0 := Lib.hid p0
  have HQ0 := Lib.hid q0
  have HZZ := Lib.hid hz
  have HFO := Lib.hid hf
  have HOW := Lib.hid ho
  clear hv hN hr hJ hug huc ho hb0 zz0 p0 q0 hs0 hz hf
  go_enter Tryz.func98, Tryz.ntmps98
  go_upto_region 1 with fail
  generalize ((w.alloc (.cells #[.int .i64 s.kind, .slice L s.labels.length lc, .slice A s.args.length ac] 27)).alloc (.cells #[.int .i64 3, .string nm, .int .i64 n0, .slice B ts.length bc] 30)).alloc (.cells #[.int .i64 0, .slice none 0 0, .slice none 0 0, .int .i64 0] 60) = w0 at *
  have sp0 : w0.cell? ⟨w.heap.size, 0, none⟩ = some (.int .i64 s.kind) := HP0.out.cell 0
  have sp1 : w0.cell? ⟨w.heap.size, 1, none⟩ = some (.slice L s.labels.length lc) := HP0.out.cell 1
  have sp2 : w0.cell? ⟨w.heap.size, 2, none⟩ = some (.slice A s.args.length ac) := HP0.out.cell 2
  have qo0 : w0.cell? ⟨w.heap.size + 1, 0, none⟩ = some (.int .i64 3) := HQ0.out.cell 0
  have qo1 : w0.cell? ⟨w.heap.size + 1, 1, none⟩ = some (.string nm) := HQ0.out.cell 1
  have qo2 : w0.cell? ⟨w.heap.size + 1, 2, none⟩ = some (.int .i64 n0) := HQ0.out.cell 2
  have qo3 : w0.cell? ⟨w.heap.size + 1, 3, none⟩ = some (.slice B ts.length bc) := HQ0.out.cell 3
  have HC := Lib.hid (typPart_any (N := fun b => N b ∨ b = w.heap.size + 1 + 1) (u := (.iface 195 (.pointer (some ua)))) (r := r) s _ 4 nm 3 w0 HN0.out HU0.out HV0.out hval (HR.out.trans (by simp [leafO])))
  clear hval hse hnm
  go_wp2_with fail
  refine HC.out.mono ?_
  rintro e w1 ⟨L1, lc1, A1, ac1, t1, k1, x1, rfl, hv1, hb1, hs1, hor1⟩
  have HF := Lib.hid (fun a b c d => typ_fin (r := r) (show w.heap.size ≤ w.heap.size + 1 + 1 by omega) (HB0.out.trans (hb1.mono HB0.out.size)) hv1 hs1 hor1 a b c d)
  have z1 := HZ0.out.below hb1 HZ0.out.lt
  have d0 : w1.cell? ⟨w.heap.size + 1 + 1, 0, none⟩ = some (.int .i64 0) := z1.cell 0
  have df0 : w1.frozen? ⟨w.heap.size + 1 + 1, 0, none⟩ = false := z1.free 0
  have d1 : w1.cell? ⟨w.heap.size + 1 + 1, 1, none⟩ = some (.slice none 0 0) := z1.cell 1
  have df1 : w1.frozen? ⟨w.heap.size + 1 + 1, 1, none⟩ = false := z1.free 1
  have d2 : w1.cell? ⟨w.heap.size + 1 + 1, 2, none⟩ = some (.slice none 0 0) := z1.cell 2
  have df2 : w1.frozen? ⟨w.heap.size + 1 + 1, 2, none⟩ = false := z1.free 2
  have d3 : w1.cell? ⟨w.heap.size + 1 + 1, 3, none⟩ = some (.int .i64 0) := z1.cell 3
  have df3 : w1.frozen? ⟨w.heap.size + 1 + 1, 3, none⟩ = false := z1.free 3
  clear hv1 hs1 hor1 hb1 z1 HC sp0 sp1 sp2 qo0 qo1 qo2 qo3
  go_wp2
  exact bodyPost_ret (v := .tuple #[.agg #[.int .i64 t1.kind, .slice L1 t1.labels.length lc1, .slice A1 t1.args.length ac1, .int .i64 k1], x1]) (by simp [results, Tryz.results98, go_sem, d0, d1, d2, d3]) rfl (HF.out _ _ _ _)

set_option maxHeartbeats 4000000 in
theorem typKind_each (n0 : Int) (nm : ByteArray) (ts : List Ot) (B : Option Addr) (bc : Nat) {N : Nat → Prop} {u : Value} {r : Option (Ty × Int)} (s : Ty) (sv : Value) (w : World) (hN : ∀ b, N b → b < w.heap.size) (hU : UnfitAt w u) (hJ : JoinsAt w) (hv : OwnA N w sv s) (ho : OtAt w w.heap.size (.agg #[.int .i64 4, .string nm, .int .i64 n0, .slice B ts.length bc]) (.mk 4 n0 nm ts)) (hval : validB s = true) (hf : formOt (.mk 4 n0 nm ts) = true) (hz : szOt (.mk 4 n0 nm ts) ≤ 1048576) (hr : r = leafO 4 nm s) :
    Calls Tryz.prog 98 #[sv, .agg #[.int .i64 4, .string nm, .int .i64 n0, .slice B ts.length bc]] w (TypPost N u r w) := by
  have hnm := form_name hf
  have hse := szTy_valid hval
  obtain ⟨L, lc, A, ac, rfl⟩ := hv.open
  obtain ⟨hb0, p0, q0, zz0, hs0⟩ := boxes3 w 27 30 60 #[.int .i64 s.kind, .slice L s.labels.length lc, .slice A s.args.length ac] #[.int .i64 4, .string nm, .int .i64 n0, .slice B ts.length bc] #[.int .i64 0, .slice none 0 0, .slice none 0 0, .int .i64 0]
  have HV0 := Lib.hid ((hv.late (w.heap.size + 1 + 1) (by omega)).up hb0)
  have HO0 := Lib.hid (ho.up hb0)
  have HN0 := Lib.hid (show ∀ b, (N b ∨ b = w.heap.size + 1 + 1) → b < (((w.alloc (.cells #[.int .i64 s.kind, .slice L s.labels.length lc, .slice A s.args.length ac] 27)).alloc (.cells #[.int .i64 4, .string nm, .int .i64 n0, .slice B ts.length bc] 30)).alloc (.cells #[.int .i64 0, .slice none 0 0, .slice none 0 0, .int .i64 0] 60)).heap.size from fun b hb => hb.elim (fun hb => Nat.lt_of_lt_of_le (hN b hb) hb0.size) (fun e => e ▸ zz0.lt))
  have HU0 := Lib.hid (hU.below hb0)
  have HJ0 := Lib.hid (hJ.below hb0)
  obtain ⟨hug, huc, ua, rfl⟩ := hU
  have HR := Lib.hid hr
  have HB0 := Lib.hid hb0
  have HZ0 := Lib.hid zz0
  have HP0 := Lib.hid p0
  have HQ0 := Lib.hid q0
  have HZZ := Lib.hid hz
  have HFO := Lib.hid hf
  have HOW := Lib.hid ho
  clear hv hN hr hJ hug huc ho hb0 zz0 p0 q0 hs0 hz hf
  go_enter Tryz.func98, Tryz.ntmps98
  go_upto_region 1 with fail
  generalize ((w.alloc (.cells #[.int .i64 s.kind, .slice L s.labels.length lc, .slice A s.args.length ac] 27)).alloc (.cells #[.int .i64 4, .string nm, .int .i64 n0, .slice B ts.length bc] 30)).alloc (.cells #[.int .i64 0, .slice none 0 0, .slice none 0 0, .int .i64 0] 60) = w0 at *
  have sp0 : w0.cell? ⟨w.heap.size, 0, none⟩ = some (.int .i64 s.kind) := HP0.out.cell 0
  have sp1 : w0.cell? ⟨w.heap.size, 1, none⟩ = some (.slice L s.labels.length lc) := HP0.out.cell 1
  have sp2 : w0.cell? ⟨w.heap.size, 2, none⟩ = some (.slice A s.args.length ac) := HP0.out.cell 2
  have qo0 : w0.cell? ⟨w.heap.size + 1, 0, none⟩ = some (.int .i64 4) := HQ0.out.cell 0
  have qo1 : w0.cell? ⟨w.heap.size + 1, 1, none⟩ = some (.string nm) := HQ0.out.cell 1
  have qo2 : w0.cell? ⟨w.heap.size + 1, 2, none⟩ = some (.int .i64 n0) := HQ0.out.cell 2
  have qo3 : w0.cell? ⟨w.heap.size + 1, 3, none⟩ = some (.slice B ts.length bc) := HQ0.out.cell 3
  have HC := Lib.hid (typElements_any (N := fun b => N b ∨ b = w.heap.size + 1 + 1) (u := (.iface 195 (.pointer (some ua)))) (r := r) s _ 5 w0 HN0.out HU0.out HV0.out hval (HR.out.trans (by simp [leafO])))
  clear hval hse hnm
  go_wp2_with fail
  refine HC.out.mono ?_
  rintro e w1 ⟨L1, lc1, A1, ac1, t1, k1, x1, rfl, hv1, hb1, hs1, hor1⟩
  have HF := Lib.hid (fun a b c d => typ_fin (r := r) (show w.heap.size ≤ w.heap.size + 1 + 1 by omega) (HB0.out.trans (hb1.mono HB0.out.size)) hv1 hs1 hor1 a b c d)
  have z1 := HZ0.out.below hb1 HZ0.out.lt
  have d0 : w1.cell? ⟨w.heap.size + 1 + 1, 0, none⟩ = some (.int .i64 0) := z1.cell 0
  have df0 : w1.frozen? ⟨w.heap.size + 1 + 1, 0, none⟩ = false := z1.free 0
  have d1 : w1.cell? ⟨w.heap.size + 1 + 1, 1, none⟩ = some (.slice none 0 0) := z1.cell 1
  have df1 : w1.frozen? ⟨w.heap.size + 1 + 1, 1, none⟩ = false := z1.free 1
  have d2 : w1.cell? ⟨w.heap.size + 1 + 1, 2, none⟩ = some (.slice none 0 0) := z1.cell 2
  have df2 : w1.frozen? ⟨w.heap.size + 1 + 1, 2, none⟩ = false := z1.free 2
  have d3 : w1.cell? ⟨w.heap.size + 1 + 1, 3, none⟩ = some (.int .i64 0) := z1.cell 3
  have df3 : w1.frozen? ⟨w.heap.size + 1 + 1, 3, none⟩ = false := z1.free 3
  clear hv1 hs1 hor1 hb1 z1 HC sp0 sp1 sp2 qo0 qo1 qo2 qo3
  go_wp2
  exact bodyPost_ret (v := .tuple #[.agg #[.int .i64 t1.kind, .slice L1 t1.labels.length lc1, .slice A1 t1.args.length ac1, .int .i64 k1], x1]) (by simp [results, Tryz.results98, go_sem, d0, d1, d2, d3]) rfl (HF.out _ _ _ _)

set_option maxHeartbeats 4000000 in
theorem typKind_all (n0 : Int) (nm : ByteArray) (ts : List Ot) (B : Option Addr) (bc : Nat) {N : Nat → Prop} {u : Value} {r : Option (Ty × Int)} (s : Ty) (sv : Value) (w : World) (hN : ∀ b, N b → b < w.heap.size) (hU : UnfitAt w u) (hJ : JoinsAt w) (hv : OwnA N w sv s) (ho : OtAt w w.heap.size (.agg #[.int .i64 5, .string nm, .int .i64 n0, .slice B ts.length bc]) (.mk 5 n0 nm ts)) (hval : validB s = true) (hf : formOt (.mk 5 n0 nm ts) = true) (hz : szOt (.mk 5 n0 nm ts) ≤ 1048576) (hr : r = leafO 5 nm s) :
    Calls Tryz.prog 98 #[sv, .agg #[.int .i64 5, .string nm, .int .i64 n0, .slice B ts.length bc]] w (TypPost N u r w) := by
  have hnm := form_name hf
  have hse := szTy_valid hval
  obtain ⟨L, lc, A, ac, rfl⟩ := hv.open
  obtain ⟨hb0, p0, q0, zz0, hs0⟩ := boxes3 w 27 30 60 #[.int .i64 s.kind, .slice L s.labels.length lc, .slice A s.args.length ac] #[.int .i64 5, .string nm, .int .i64 n0, .slice B ts.length bc] #[.int .i64 0, .slice none 0 0, .slice none 0 0, .int .i64 0]
  have HV0 := Lib.hid ((hv.late (w.heap.size + 1 + 1) (by omega)).up hb0)
  have HO0 := Lib.hid (ho.up hb0)
  have HN0 := Lib.hid (show ∀ b, (N b ∨ b = w.heap.size + 1 + 1) → b < (((w.alloc (.cells #[.int .i64 s.kind, .slice L s.labels.length lc, .slice A s.args.length ac] 27)).alloc (.cells #[.int .i64 5, .string nm, .int .i64 n0, .slice B ts.length bc] 30)).alloc (.cells #[.int .i64 0, .slice none 0 0, .slice none 0 0, .int .i64 0] 60)).heap.size from fun b hb => hb.elim (fun hb => Nat.lt_of_lt_of_le (hN b hb) hb0.size) (fun e => e ▸ zz0.lt))
  have HU0 := Lib.hid (hU.below hb0)
  have HJ0 := Lib.hid (hJ.below hb0)
  obtain ⟨hug, huc, ua, rfl⟩ := hU
  have HR := Lib.hid hr
  have HB0 := Lib.hid hb0
  have HZ0 := Lib.hid zz0
  have HP0 := Lib.hid p0
  have HQ0 := Lib.hid q0
  have HZZ := Lib.hid hz
  have HFO := Lib.hid hf
  have HOW := Lib.hid ho
  clear hv hN hr hJ hug huc ho hb0 zz0 p0 q0 hs0 hz hf
  go_enter Tryz.func98, Tryz.ntmps98
  go_upto_region 1 with fail
  generalize ((w.alloc (.cells #[.int .i64 s.kind, .slice L s.labels.length lc, .slice A s.args.length ac] 27)).alloc (.cells #[.int .i64 5, .string nm, .int .i64 n0, .slice B ts.length bc] 30)).alloc (.cells #[.int .i64 0, .slice none 0 0, .slice none 0 0, .int .i64 0] 60) = w0 at *
  have sp0 : w0.cell? ⟨w.heap.size, 0, none⟩ = some (.int .i64 s.kind) := HP0.out.cell 0
  have sp1 : w0.cell? ⟨w.heap.size, 1, none⟩ = some (.slice L s.labels.length lc) := HP0.out.cell 1
  have sp2 : w0.cell? ⟨w.heap.size, 2, none⟩ = some (.slice A s.args.length ac) := HP0.out.cell 2
  have qo0 : w0.cell? ⟨w.heap.size + 1, 0, none⟩ = some (.int .i64 5) := HQ0.out.cell 0
  have qo1 : w0.cell? ⟨w.heap.size + 1, 1, none⟩ = some (.string nm) := HQ0.out.cell 1
  have qo2 : w0.cell? ⟨w.heap.size + 1, 2, none⟩ = some (.int .i64 n0) := HQ0.out.cell 2
  have qo3 : w0.cell? ⟨w.heap.size + 1, 3, none⟩ = some (.slice B ts.length bc) := HQ0.out.cell 3
  have HC := Lib.hid (typFields_any (N := fun b => N b ∨ b = w.heap.size + 1 + 1) (u := (.iface 195 (.pointer (some ua)))) (r := r) s _ w0 HN0.out HU0.out HV0.out hval (HR.out.trans (by simp [leafO])))
  clear hval hse hnm
  go_wp2_with fail
  refine HC.out.mono ?_
  rintro e w1 ⟨L1, lc1, A1, ac1, t1, k1, x1, rfl, hv1, hb1, hs1, hor1⟩
  have HF := Lib.hid (fun a b c d => typ_fin (r := r) (show w.heap.size ≤ w.heap.size + 1 + 1 by omega) (HB0.out.trans (hb1.mono HB0.out.size)) hv1 hs1 hor1 a b c d)
  have z1 := HZ0.out.below hb1 HZ0.out.lt
  have d0 : w1.cell? ⟨w.heap.size + 1 + 1, 0, none⟩ = some (.int .i64 0) := z1.cell 0
  have df0 : w1.frozen? ⟨w.heap.size + 1 + 1, 0, none⟩ = false := z1.free 0
  have d1 : w1.cell? ⟨w.heap.size + 1 + 1, 1, none⟩ = some (.slice none 0 0) := z1.cell 1
  have df1 : w1.frozen? ⟨w.heap.size + 1 + 1, 1, none⟩ = false := z1.free 1
  have d2 : w1.cell? ⟨w.heap.size + 1 + 1, 2, none⟩ = some (.slice none 0 0) := z1.cell 2
  have df2 : w1.frozen? ⟨w.heap.size + 1 + 1, 2, none⟩ = false := z1.free 2
  have d3 : w1.cell? ⟨w.heap.size + 1 + 1, 3, none⟩ = some (.int .i64 0) := z1.cell 3
  have df3 : w1.frozen? ⟨w.heap.size + 1 + 1, 3, none⟩ = false := z1.free 3
  clear hv1 hs1 hor1 hb1 z1 HC sp0 sp1 sp2 qo0 qo1 qo2 qo3
  go_wp2
  exact bodyPost_ret (v := .tuple #[.agg #[.int .i64 t1.kind, .slice L1 t1.labels.length lc1, .slice A1 t1.args.length ac1, .int .i64 k1], x1]) (by simp [results, Tryz.results98, go_sem, d0, d1, d2, d3]) rfl (HF.out _ _ _ _)

set_option maxHeartbeats 4000000 in
theorem typKind_at (n0 : Int) (nm : ByteArray) (ts : List Ot) (B : Option Addr) (bc : Nat) {N : Nat → Prop} {u : Value} {r : Option (Ty × Int)} (s : Ty) (sv : Value) (w : World) (hN : ∀ b, N b → b < w.heap.size) (hU : UnfitAt w u) (hJ : JoinsAt w) (hv : OwnA N w sv s) (ho : OtAt w w.heap.size (.agg #[.int .i64 6, .string nm, .int .i64 n0, .slice B ts.length bc]) (.mk 6 n0 nm ts)) (hval : validB s = true) (hf : formOt (.mk 6 n0 nm ts) = true) (hz : szOt (.mk 6 n0 nm ts) ≤ 1048576) (hr : r = leafO 6 nm s) :
    Calls Tryz.prog 98 #[sv, .agg #[.int .i64 6, .string nm, .int .i64 n0, .slice B ts.length bc]] w (TypPost N u r w) := by
  have hnm := form_name hf
  have hse := szTy_valid hval
  obtain ⟨L, lc, A, ac, rfl⟩ := hv.open
  obtain ⟨hb0, p0, q0, zz0, hs0⟩ := boxes3 w 27 30 60 #[.int .i64 s.kind, .slice L s.labels.length lc, .slice A s.args.length ac] #[.int .i64 6, .string nm, .int .i64 n0, .slice B ts.length bc] #[.int .i64 0, .slice none 0 0, .slice none 0 0, .int .i64 0]
  have HV0 := Lib.hid ((hv.late (w.heap.size + 1 + 1) (by omega)).up hb0)
  have HO0 := Lib.hid (ho.up hb0)
  have HN0 := Lib.hid (show ∀ b, (N b ∨ b = w.heap.size + 1 + 1) → b < (((w.alloc (.cells #[.int .i64 s.kind, .slice L s.labels.length lc, .slice A s.args.length ac] 27)).alloc (.cells #[.int .i64 6, .string nm, .int .i64 n0, .slice B ts.length bc] 30)).alloc (.cells #[.int .i64 0, .slice none 0 0, .slice none 0 0, .int .i64 0] 60)).heap.size from fun b hb => hb.elim (fun hb => Nat.lt_of_lt_of_le (hN b hb) hb0.size) (fun e => e ▸ zz0.lt))
  have HU0 := Lib.hid (hU.below hb0)
  have HJ0 := Lib.hid (hJ.below hb0)
  obtain ⟨hug, huc, ua, rfl⟩ := hU
  have HR := Lib.hid hr
  have HB0 := Lib.hid hb0
  have HZ0 := Lib.hid zz0
  have HP0 := Lib.hid p0
  have HQ0 := Lib.hid q0
  have HZZ := Lib.hid hz
  have HFO := Lib.hid hf
  have HOW := Lib.hid ho
  clear hv hN hr hJ hug huc ho hb0 zz0 p0 q0 hs0 hz hf
  go_enter Tryz.func98, Tryz.ntmps98
  go_upto_region 1 with fail
  generalize ((w.alloc (.cells #[.int .i64 s.kind, .slice L s.labels.length lc, .slice A s.args.length ac] 27)).alloc (.cells #[.int .i64 6, .string nm, .int .i64 n0, .slice B ts.length bc] 30)).alloc (.cells #[.int .i64 0, .slice none 0 0, .slice none 0 0, .int .i64 0] 60) = w0 at *
  have sp0 : w0.cell? ⟨w.heap.size, 0, none⟩ = some (.int .i64 s.kind) := HP0.out.cell 0
  have sp1 : w0.cell? ⟨w.heap.size, 1, none⟩ = some (.slice L s.labels.length lc) := HP0.out.cell 1
  have sp2 : w0.cell? ⟨w.heap.size, 2, none⟩ = some (.slice A s.args.length ac) := HP0.out.cell 2
  have qo0 : w0.cell? ⟨w.heap.size + 1, 0, none⟩ = some (.int .i64 6) := HQ0.out.cell 0
  have qo1 : w0.cell? ⟨w.heap.size + 1, 1, none⟩ = some (.string nm) := HQ0.out.cell 1
  have qo2 : w0.cell? ⟨w.heap.size + 1, 2, none⟩ = some (.int .i64 n0) := HQ0.out.cell 2
  have qo3 : w0.cell? ⟨w.heap.size + 1, 3, none⟩ = some (.slice B ts.length bc) := HQ0.out.cell 3
  have HC := Lib.hid (typElements_any (N := fun b => N b ∨ b = w.heap.size + 1 + 1) (u := (.iface 195 (.pointer (some ua)))) (r := r) s _ 4 w0 HN0.out HU0.out HV0.out hval (HR.out.trans (by simp [leafO])))
  clear hval hse hnm
  go_wp2_with fail
  refine HC.out.mono ?_
  rintro e w1 ⟨L1, lc1, A1, ac1, t1, k1, x1, rfl, hv1, hb1, hs1, hor1⟩
  have HF := Lib.hid (fun a b c d => typ_fin (r := r) (show w.heap.size ≤ w.heap.size + 1 + 1 by omega) (HB0.out.trans (hb1.mono HB0.out.size)) hv1 hs1 hor1 a b c d)
  have z1 := HZ0.out.below hb1 HZ0.out.lt
  have d0 : w1.cell? ⟨w.heap.size + 1 + 1, 0, none⟩ = some (.int .i64 0) := z1.cell 0
  have df0 : w1.frozen? ⟨w.heap.size + 1 + 1, 0, none⟩ = false := z1.free 0
  have d1 : w1.cell? ⟨w.heap.size + 1 + 1, 1, none⟩ = some (.slice none 0 0) := z1.cell 1
  have df1 : w1.frozen? ⟨w.heap.size + 1 + 1, 1, none⟩ = false := z1.free 1
  have d2 : w1.cell? ⟨w.heap.size + 1 + 1, 2, none⟩ = some (.slice none 0 0) := z1.cell 2
  have df2 : w1.frozen? ⟨w.heap.size + 1 + 1, 2, none⟩ = false := z1.free 2
  have d3 : w1.cell? ⟨w.heap.size + 1 + 1, 3, none⟩ = some (.int .i64 0) := z1.cell 3
  have df3 : w1.frozen? ⟨w.heap.size + 1 + 1, 3, none⟩ = false := z1.free 3
  clear hv1 hs1 hor1 hb1 z1 HC sp0 sp1 sp2 qo0 qo1 qo2 qo3
  go_wp2
  exact bodyPost_ret (v := .tuple #[.agg #[.int .i64 t1.kind, .slice L1 t1.labels.length lc1, .slice A1 t1.args.length ac1, .int .i64 k1], x1]) (by simp [results, Tryz.results98, go_sem, d0, d1, d2, d3]) rfl (HF.out _ _ _ _)

set_option maxHeartbeats 4000000 in
theorem typKind_add (n0 : Int) (nm : ByteArray) (ts : List Ot) (B : Option Addr) (bc : Nat) {N : Nat → Prop} {u : Value} {r : Option (Ty × Int)} (s : Ty) (sv : Value) (w : World) (hN : ∀ b, N b → b < w.heap.size) (hU : UnfitAt w u) (hJ : JoinsAt w) (hv : OwnA N w sv s) (ho : OtAt w w.heap.size (.agg #[.int .i64 7, .string nm, .int .i64 n0, .slice B ts.length bc]) (.mk 7 n0 nm ts)) (hval : validB s = true) (hf : formOt (.mk 7 n0 nm ts) = true) (hz : szOt (.mk 7 n0 nm ts) ≤ 1048576) (hr : r = leafO 7 nm s) :
    Calls Tryz.prog 98 #[sv, .agg #[.int .i64 7, .string nm, .int .i64 n0, .slice B ts.length bc]] w (TypPost N u r w) := by
  have hnm := form_name hf
  have hse := szTy_valid hval
  obtain ⟨L, lc, A, ac, rfl⟩ := hv.open
  obtain ⟨hb0, p0, q0, zz0, hs0⟩ := boxes3 w 27 30 60 #[.int .i64 s.kind, .slice L s.labels.length lc, .slice A s.args.length ac] #[.int .i64 7, .string nm, .int .i64 n0, .slice B ts.length bc] #[.int .i64 0, .slice none 0 0, .slice none 0 0, .int .i64 0]
  have HV0 := Lib.hid ((hv.late (w.heap.size + 1 + 1) (by omega)).up hb0)
  have HO0 := Lib.hid (ho.up hb0)
  have HN0 := Lib.hid (show ∀ b, (N b ∨ b = w.heap.size + 1 + 1) → b < (((w.alloc (.cells #[.int .i64 s.kind, .slice L s.labels.length lc, .slice A s.args.length ac] 27)).alloc (.cells #[.int .i64 7, .string nm, .int .i64 n0, .slice B ts.length bc] 30)).alloc (.cells #[.int .i64 0, .slice none 0 0, .slice none 0 0, .int .i64 0] 60)).heap.size from fun b hb => hb.elim (fun hb => Nat.lt_of_lt_of_le (hN b hb) hb0.size) (fun e => e ▸ zz0.lt))
  have HU0 := Lib.hid (hU.below hb0)
  have HJ0 := Lib.hid (hJ.below hb0)
  obtain ⟨hug, huc, ua, rfl⟩ := hU
  have HR := Lib.hid hr
  have HB0 := Lib.hid hb0
  have HZ0 := Lib.hid zz0
  have HP0 := Lib.hid p0
  have HQ0 := Lib.hid q0
  have HZZ := Lib.hid hz
  have HFO := Lib.hid hf
  have HOW := Lib.hid ho
  clear hv hN hr hJ hug huc ho hb0 zz0 p0 q0 hs0 hz hf
  go_enter Tryz.func98, Tryz.ntmps98
  go_upto_region 1 with fail
  generalize ((w.alloc (.cells #[.int .i64 s.kind, .slice L s.labels.length lc, .slice A s.args.length ac] 27)).alloc (.cells #[.int .i64 7, .string nm, .int .i64 n0, .slice B ts.length bc] 30)).alloc (.cells #[.int .i64 0, .slice none 0 0, .slice none 0 0, .int .i64 0] 60) = w0 at *
  have sp0 : w0.cell? ⟨w.heap.size, 0, none⟩ = some (.int .i64 s.kind) := HP0.out.cell 0
  have sp1 : w0.cell? ⟨w.heap.size, 1, none⟩ = some (.slice L s.labels.length lc) := HP0.out.cell 1
  have sp2 : w0.cell? ⟨w.heap.size, 2, none⟩ = some (.slice A s.args.length ac) := HP0.out.cell 2
  have qo0 : w0.cell? ⟨w.heap.size + 1, 0, none⟩ = some (.int .i64 7) := HQ0.out.cell 0
  have qo1 : w0.cell? ⟨w.heap.size + 1, 1, none⟩ = some (.string nm) := HQ0.out.cell 1
  have qo2 : w0.cell? ⟨w.heap.size + 1, 2, none⟩ = some (.int .i64 n0) := HQ0.out.cell 2
  have qo3 : w0.cell? ⟨w.heap.size + 1, 3, none⟩ = some (.slice B ts.length bc) := HQ0.out.cell 3
  have HC := Lib.hid (typChange_any (N := fun b => N b ∨ b = w.heap.size + 1 + 1) (u := (.iface 195 (.pointer (some ua)))) (r := r) s _ 1 w0 HN0.out HU0.out HV0.out hval (HR.out.trans (by simp [leafO])))
  clear hval hse hnm
  go_wp2_with fail
  refine HC.out.mono ?_
  rintro e w1 ⟨L1, lc1, A1, ac1, t1, k1, x1, rfl, hv1, hb1, hs1, hor1⟩
  have HF := Lib.hid (fun a b c d => typ_fin (r := r) (show w.heap.size ≤ w.heap.size + 1 + 1 by omega) (HB0.out.trans (hb1.mono HB0.out.size)) hv1 hs1 hor1 a b c d)
  have z1 := HZ0.out.below hb1 HZ0.out.lt
  have d0 : w1.cell? ⟨w.heap.size + 1 + 1, 0, none⟩ = some (.int .i64 0) := z1.cell 0
  have df0 : w1.frozen? ⟨w.heap.size + 1 + 1, 0, none⟩ = false := z1.free 0
  have d1 : w1.cell? ⟨w.heap.size + 1 + 1, 1, none⟩ = some (.slice none 0 0) := z1.cell 1
  have df1 : w1.frozen? ⟨w.heap.size + 1 + 1, 1, none⟩ = false := z1.free 1
  have d2 : w1.cell? ⟨w.heap.size + 1 + 1, 2, none⟩ = some (.slice none 0 0) := z1.cell 2
  have df2 : w1.frozen? ⟨w.heap.size + 1 + 1, 2, none⟩ = false := z1.free 2
  have d3 : w1.cell? ⟨w.heap.size + 1 + 1, 3, none⟩ = some (.int .i64 0) := z1.cell 3
  have df3 : w1.frozen? ⟨w.heap.size + 1 + 1, 3, none⟩ = false := z1.free 3
  clear hv1 hs1 hor1 hb1 z1 HC sp0 sp1 sp2 qo0 qo1 qo2 qo3
  go_wp2
  exact bodyPost_ret (v := .tuple #[.agg #[.int .i64 t1.kind, .slice L1 t1.labels.length lc1, .slice A1 t1.args.length ac1, .int .i64 k1], x1]) (by simp [results, Tryz.results98, go_sem, d0, d1, d2, d3]) rfl (HF.out _ _ _ _)

set_option maxHeartbeats 4000000 in
theorem typKind_not (n0 : Int) (nm : ByteArray) (ts : List Ot) (B : Option Addr) (bc : Nat) {N : Nat → Prop} {u : Value} {r : Option (Ty × Int)} (s : Ty) (sv : Value) (w : World) (hN : ∀ b, N b → b < w.heap.size) (hU : UnfitAt w u) (hJ : JoinsAt w) (hv : OwnA N w sv s) (ho : OtAt w w.heap.size (.agg #[.int .i64 8, .string nm, .int .i64 n0, .slice B ts.length bc]) (.mk 8 n0 nm ts)) (hval : validB s = true) (hf : formOt (.mk 8 n0 nm ts) = true) (hz : szOt (.mk 8 n0 nm ts) ≤ 1048576) (hr : r = leafO 8 nm s) :
    Calls Tryz.prog 98 #[sv, .agg #[.int .i64 8, .string nm, .int .i64 n0, .slice B ts.length bc]] w (TypPost N u r w) := by
  have hnm := form_name hf
  have hse := szTy_valid hval
  obtain ⟨L, lc, A, ac, rfl⟩ := hv.open
  obtain ⟨hb0, p0, q0, zz0, hs0⟩ := boxes3 w 27 30 60 #[.int .i64 s.kind, .slice L s.labels.length lc, .slice A s.args.length ac] #[.int .i64 8, .string nm, .int .i64 n0, .slice B ts.length bc] #[.int .i64 0, .slice none 0 0, .slice none 0 0, .int .i64 0]
  have HV0 := Lib.hid ((hv.late (w.heap.size + 1 + 1) (by omega)).up hb0)
  have HO0 := Lib.hid (ho.up hb0)
  have HN0 := Lib.hid (show ∀ b, (N b ∨ b = w.heap.size + 1 + 1) → b < (((w.alloc (.cells #[.int .i64 s.kind, .slice L s.labels.length lc, .slice A s.args.length ac] 27)).alloc (.cells #[.int .i64 8, .string nm, .int .i64 n0, .slice B ts.length bc] 30)).alloc (.cells #[.int .i64 0, .slice none 0 0, .slice none 0 0, .int .i64 0] 60)).heap.size from fun b hb => hb.elim (fun hb => Nat.lt_of_lt_of_le (hN b hb) hb0.size) (fun e => e ▸ zz0.lt))
  have HU0 := Lib.hid (hU.below hb0)
  have HJ0 := Lib.hid (hJ.below hb0)
  obtain ⟨hug, huc, ua, rfl⟩ := hU
  have HR := Lib.hid hr
  have HB0 := Lib.hid hb0
  have HZ0 := Lib.hid zz0
  have HP0 := Lib.hid p0
  have HQ0 := Lib.hid q0
  have HZZ := Lib.hid hz
  have HFO := Lib.hid hf
  have HOW := Lib.hid ho
  clear hv hN hr hJ hug huc ho hb0 zz0 p0 q0 hs0 hz hf
  go_enter Tryz.func98, Tryz.ntmps98
  go_upto_region 1 with fail
  generalize ((w.alloc (.cells #[.int .i64 s.kind, .slice L s.labels.length lc, .slice A s.args.length ac] 27)).alloc (.cells #[.int .i64 8, .string nm, .int .i64 n0, .slice B ts.length bc] 30)).alloc (.cells #[.int .i64 0, .slice none 0 0, .slice none 0 0, .int .i64 0] 60) = w0 at *
  have sp0 : w0.cell? ⟨w.heap.size, 0, none⟩ = some (.int .i64 s.kind) := HP0.out.cell 0
  have sp1 : w0.cell? ⟨w.heap.size, 1, none⟩ = some (.slice L s.labels.length lc) := HP0.out.cell 1
  have sp2 : w0.cell? ⟨w.heap.size, 2, none⟩ = some (.slice A s.args.length ac) := HP0.out.cell 2
  have qo0 : w0.cell? ⟨w.heap.size + 1, 0, none⟩ = some (.int .i64 8) := HQ0.out.cell 0
  have qo1 : w0.cell? ⟨w.heap.size + 1, 1, none⟩ = some (.string nm) := HQ0.out.cell 1
  have qo2 : w0.cell? ⟨w.heap.size + 1, 2, none⟩ = some (.int .i64 n0) := HQ0.out.cell 2
  have qo3 : w0.cell? ⟨w.heap.size + 1, 3, none⟩ = some (.slice B ts.length bc) := HQ0.out.cell 3
  have HC := Lib.hid (typChange_any (N := fun b => N b ∨ b = w.heap.size + 1 + 1) (u := (.iface 195 (.pointer (some ua)))) (r := r) s _ 2 w0 HN0.out HU0.out HV0.out hval (HR.out.trans (by simp [leafO])))
  clear hval hse hnm
  go_wp2_with fail
  refine HC.out.mono ?_
  rintro e w1 ⟨L1, lc1, A1, ac1, t1, k1, x1, rfl, hv1, hb1, hs1, hor1⟩
  have HF := Lib.hid (fun a b c d => typ_fin (r := r) (show w.heap.size ≤ w.heap.size + 1 + 1 by omega) (HB0.out.trans (hb1.mono HB0.out.size)) hv1 hs1 hor1 a b c d)
  have z1 := HZ0.out.below hb1 HZ0.out.lt
  have d0 : w1.cell? ⟨w.heap.size + 1 + 1, 0, none⟩ = some (.int .i64 0) := z1.cell 0
  have df0 : w1.frozen? ⟨w.heap.size + 1 + 1, 0, none⟩ = false := z1.free 0
  have d1 : w1.cell? ⟨w.heap.size + 1 + 1, 1, none⟩ = some (.slice none 0 0) := z1.cell 1
  have df1 : w1.frozen? ⟨w.heap.size + 1 + 1, 1, none⟩ = false := z1.free 1
  have d2 : w1.cell? ⟨w.heap.size + 1 + 1, 2, none⟩ = some (.slice none 0 0) := z1.cell 2
  have df2 : w1.frozen? ⟨w.heap.size + 1 + 1, 2, none⟩ = false := z1.free 2
  have d3 : w1.cell? ⟨w.heap.size + 1 + 1, 3, none⟩ = some (.int .i64 0) := z1.cell 3
  have df3 : w1.frozen? ⟨w.heap.size + 1 + 1, 3, none⟩ = false := z1.free 3
  clear hv1 hs1 hor1 hb1 z1 HC sp0 sp1 sp2 qo0 qo1 qo2 qo3
  go_wp2
  exact bodyPost_ret (v := .tuple #[.agg #[.int .i64 t1.kind, .slice L1 t1.labels.length lc1, .slice A1 t1.args.length ac1, .int .i64 k1], x1]) (by simp [results, Tryz.results98, go_sem, d0, d1, d2, d3]) rfl (HF.out _ _ _ _)

set_option maxHeartbeats 4000000 in
theorem typKind_rev (n0 : Int) (nm : ByteArray) (ts : List Ot) (B : Option Addr) (bc : Nat) {N : Nat → Prop} {u : Value} {r : Option (Ty × Int)} (s : Ty) (sv : Value) (w : World) (hN : ∀ b, N b → b < w.heap.size) (hU : UnfitAt w u) (hJ : JoinsAt w) (hv : OwnA N w sv s) (ho : OtAt w w.heap.size (.agg #[.int .i64 9, .string nm, .int .i64 n0, .slice B ts.length bc]) (.mk 9 n0 nm ts)) (hval : validB s = true) (hf : formOt (.mk 9 n0 nm ts) = true) (hz : szOt (.mk 9 n0 nm ts) ≤ 1048576) (hr : r = leafO 9 nm s) :
    Calls Tryz.prog 98 #[sv, .agg #[.int .i64 9, .string nm, .int .i64 n0, .slice B ts.length bc]] w (TypPost N u r w) := by
  have hnm := form_name hf
  have hse := szTy_valid hval
  obtain ⟨L, lc, A, ac, rfl⟩ := hv.open
  obtain ⟨hb0, p0, q0, zz0, hs0⟩ := boxes3 w 27 30 60 #[.int .i64 s.kind, .slice L s.labels.length lc, .slice A s.args.length ac] #[.int .i64 9, .string nm, .int .i64 n0, .slice B ts.length bc] #[.int .i64 0, .slice none 0 0, .slice none 0 0, .int .i64 0]
  have HV0 := Lib.hid ((hv.late (w.heap.size + 1 + 1) (by omega)).up hb0)
  have HO0 := Lib.hid (ho.up hb0)
  have HN0 := Lib.hid (show ∀ b, (N b ∨ b = w.heap.size + 1 + 1) → b < (((w.alloc (.cells #[.int .i64 s.kind, .slice L s.labels.length lc, .slice A s.args.length ac] 27)).alloc (.cells #[.int .i64 9, .string nm, .int .i64 n0, .slice B ts.length bc] 30)).alloc (.cells #[.int .i64 0, .slice none 0 0, .slice none 0 0, .int .i64 0] 60)).heap.size from fun b hb => hb.elim (fun hb => Nat.lt_of_lt_of_le (hN b hb) hb0.size) (fun e => e ▸ zz0.lt))
  have HU0 := Lib.hid (hU.below hb0)
  have HJ0 := Lib.hid (hJ.below hb0)
  obtain ⟨hug, huc, ua, rfl⟩ := hU
  have HR := Lib.hid hr
  have HB0 := Lib.hid hb0
  have HZ0 := Lib.hid zz0
  have HP0 := Lib.hid p0
  have HQ0 := Lib.hid q0
  have HZZ := Lib.hid hz
  have HFO := Lib.hid hf
  have HOW := Lib.hid ho
  clear hv hN hr hJ hug huc ho hb0 zz0 p0 q0 hs0 hz hf
  go_enter Tryz.func98, Tryz.ntmps98
  go_upto_region 1 with fail
  generalize ((w.alloc (.cells #[.int .i64 s.kind, .slice L s.labels.length lc, .slice A s.args.length ac] 27)).alloc (.cells #[.int .i64 9, .string nm, .int .i64 n0, .slice B ts.length bc] 30)).alloc (.cells #[.int .i64 0, .slice none 0 0, .slice none 0 0, .int .i64 0] 60) = w0 at *
  have sp0 : w0.cell? ⟨w.heap.size, 0, none⟩ = some (.int .i64 s.kind) := HP0.out.cell 0
  have sp1 : w0.cell? ⟨w.heap.size, 1, none⟩ = some (.slice L s.labels.length lc) := HP0.out.cell 1
  have sp2 : w0.cell? ⟨w.heap.size, 2, none⟩ = some (.slice A s.args.length ac) := HP0.out.cell 2
  have qo0 : w0.cell? ⟨w.heap.size + 1, 0, none⟩ = some (.int .i64 9) := HQ0.out.cell 0
  have qo1 : w0.cell? ⟨w.heap.size + 1, 1, none⟩ = some (.string nm) := HQ0.out.cell 1
  have qo2 : w0.cell? ⟨w.heap.size + 1, 2, none⟩ = some (.int .i64 n0) := HQ0.out.cell 2
  have qo3 : w0.cell? ⟨w.heap.size + 1, 3, none⟩ = some (.slice B ts.length bc) := HQ0.out.cell 3
  have HC := Lib.hid (typChange_any (N := fun b => N b ∨ b = w.heap.size + 1 + 1) (u := (.iface 195 (.pointer (some ua)))) (r := r) s _ 5 w0 HN0.out HU0.out HV0.out hval (HR.out.trans (by simp [leafO])))
  clear hval hse hnm
  go_wp2_with fail
  refine HC.out.mono ?_
  rintro e w1 ⟨L1, lc1, A1, ac1, t1, k1, x1, rfl, hv1, hb1, hs1, hor1⟩
  have HF := Lib.hid (fun a b c d => typ_fin (r := r) (show w.heap.size ≤ w.heap.size + 1 + 1 by omega) (HB0.out.trans (hb1.mono HB0.out.size)) hv1 hs1 hor1 a b c d)
  have z1 := HZ0.out.below hb1 HZ0.out.lt
  have d0 : w1.cell? ⟨w.heap.size + 1 + 1, 0, none⟩ = some (.int .i64 0) := z1.cell 0
  have df0 : w1.frozen? ⟨w.heap.size + 1 + 1, 0, none⟩ = false := z1.free 0
  have d1 : w1.cell? ⟨w.heap.size + 1 + 1, 1, none⟩ = some (.slice none 0 0) := z1.cell 1
  have df1 : w1.frozen? ⟨w.heap.size + 1 + 1, 1, none⟩ = false := z1.free 1
  have d2 : w1.cell? ⟨w.heap.size + 1 + 1, 2, none⟩ = some (.slice none 0 0) := z1.cell 2
  have df2 : w1.frozen? ⟨w.heap.size + 1 + 1, 2, none⟩ = false := z1.free 2
  have d3 : w1.cell? ⟨w.heap.size + 1 + 1, 3, none⟩ = some (.int .i64 0) := z1.cell 3
  have df3 : w1.frozen? ⟨w.heap.size + 1 + 1, 3, none⟩ = false := z1.free 3
  clear hv1 hs1 hor1 hb1 z1 HC sp0 sp1 sp2 qo0 qo1 qo2 qo3
  go_wp2
  exact bodyPost_ret (v := .tuple #[.agg #[.int .i64 t1.kind, .slice L1 t1.labels.length lc1, .slice A1 t1.args.length ac1, .int .i64 k1], x1]) (by simp [results, Tryz.results98, go_sem, d0, d1, d2, d3]) rfl (HF.out _ _ _ _)

set_option maxHeartbeats 4000000 in
theorem typKind_wrap (n0 : Int) (nm : ByteArray) (ts : List Ot) (B : Option Addr) (bc : Nat) {N : Nat → Prop} {u : Value} {r : Option (Ty × Int)} (s : Ty) (sv : Value) (w : World) (hN : ∀ b, N b → b < w.heap.size) (hU : UnfitAt w u) (hJ : JoinsAt w) (hv : OwnA N w sv s) (ho : OtAt w w.heap.size (.agg #[.int .i64 10, .string nm, .int .i64 n0, .slice B ts.length bc]) (.mk 10 n0 nm ts)) (hval : validB s = true) (hf : formOt (.mk 10 n0 nm ts) = true) (hz : szOt (.mk 10 n0 nm ts) ≤ 1048576) (hr : r = leafO 10 nm s) :
    Calls Tryz.prog 98 #[sv, .agg #[.int .i64 10, .string nm, .int .i64 n0, .slice B ts.length bc]] w (TypPost N u r w) := by
  have hnm := form_name hf
  have hse := szTy_valid hval
  obtain ⟨L, lc, A, ac, rfl⟩ := hv.open
  obtain ⟨hb0, p0, q0, zz0, hs0⟩ := boxes3 w 27 30 60 #[.int .i64 s.kind, .slice L s.labels.length lc, .slice A s.args.length ac] #[.int .i64 10, .string nm, .int .i64 n0, .slice B ts.length bc] #[.int .i64 0, .slice none 0 0, .slice none 0 0, .int .i64 0]
  have HV0 := Lib.hid ((hv.late (w.heap.size + 1 + 1) (by omega)).up hb0)
  have HO0 := Lib.hid (ho.up hb0)
  have HN0 := Lib.hid (show ∀ b, (N b ∨ b = w.heap.size + 1 + 1) → b < (((w.alloc (.cells #[.int .i64 s.kind, .slice L s.labels.length lc, .slice A s.args.length ac] 27)).alloc (.cells #[.int .i64 10, .string nm, .int .i64 n0, .slice B ts.length bc] 30)).alloc (.cells #[.int .i64 0, .slice none 0 0, .slice none 0 0, .int .i64 0] 60)).heap.size from fun b hb => hb.elim (fun hb => Nat.lt_of_lt_of_le (hN b hb) hb0.size) (fun e => e ▸ zz0.lt))
  have HU0 := Lib.hid (hU.below hb0)
  have HJ0 := Lib.hid (hJ.below hb0)
  obtain ⟨hug, huc, ua, rfl⟩ := hU
  have HR := Lib.hid hr
  have HB0 := Lib.hid hb0
  have HZ0 := Lib.hid zz0
  have HP0 := Lib.hid p0
  have HQ0 := Lib.hid q0
  have HZZ := Lib.hid hz
  have HFO := Lib.hid hf
  have HOW := Lib.hid ho
  clear hv hN hr hJ hug huc ho hb0 zz0 p0 q0 hs0 hz hf
  go_enter Tryz.func98, Tryz.ntmps98
  go_upto_region 1 with fail
  generalize ((w.alloc (.cells #[.int .i64 s.kind, .slice L s.labels.length lc, .slice A s.args.length ac] 27)).alloc (.cells #[.int .i64 10, .string nm, .int .i64 n0, .slice B ts.length bc] 30)).alloc (.cells #[.int .i64 0, .slice none 0 0, .slice none 0 0, .int .i64 0] 60) = w0 at *
  have sp0 : w0.cell? ⟨w.heap.size, 0, none⟩ = some (.int .i64 s.kind) := HP0.out.cell 0
  have sp1 : w0.cell? ⟨w.heap.size, 1, none⟩ = some (.slice L s.labels.length lc) := HP0.out.cell 1
  have sp2 : w0.cell? ⟨w.heap.size, 2, none⟩ = some (.slice A s.args.length ac) := HP0.out.cell 2
  have qo0 : w0.cell? ⟨w.heap.size + 1, 0, none⟩ = some (.int .i64 10) := HQ0.out.cell 0
  have qo1 : w0.cell? ⟨w.heap.size + 1, 1, none⟩ = some (.string nm) := HQ0.out.cell 1
  have qo2 : w0.cell? ⟨w.heap.size + 1, 2, none⟩ = some (.int .i64 n0) := HQ0.out.cell 2
  have qo3 : w0.cell? ⟨w.heap.size + 1, 3, none⟩ = some (.slice B ts.length bc) := HQ0.out.cell 3
  have hst : szTy (Ty.mk 3 [nm] [s]) ≤ 2000 := by
    have h1 := szTy_eq (Ty.mk 3 [nm] [s])
    simp [Ty.labels, Ty.args, sumSizes, szTys] at h1
    omega
  obtain ⟨hb8, l8, r8, q8, hs8⟩ := boxes3 w0 9 27 27 #[.string nm] #[.int .i64 s.kind, .slice L s.labels.length lc, .slice A s.args.length ac] #[.int .i64 3, .slice (some ⟨w0.heap.size, 0, none⟩) 1 1, .slice (some ⟨w0.heap.size + 1, 0, none⟩) 1 1]
  have hown := wrap_own (lc := 1) (ac := 1) (k := 3) HV0.out HN0.out hb8 (Nat.le_refl _) (by omega) (by omega) (by unfold maxLen; omega) l8 r8
  have HF := Lib.hid (fun a b c d => typ_fin (r := r) (u := (.iface 195 (.pointer (some ua)))) (kd := 1) (show w.heap.size ≤ w.heap.size + 1 + 1 by omega) (HB0.out.trans (hb8.mono HB0.out.size)) hown hst (.inr ⟨HR.out.trans (by simp [leafO]), rfl⟩) a b c d)
  have z8 := HZ0.out.below hb8 HZ0.out.lt
  have d0 : (((w0.alloc (.cells #[.string nm] 9)).alloc (.cells #[.int .i64 s.kind, .slice L s.labels.length lc, .slice A s.args.length ac] 27)).alloc (.cells #[.int .i64 3, .slice (some ⟨w0.heap.size, 0, none⟩) 1 1, .slice (some ⟨w0.heap.size + 1, 0, none⟩) 1 1] 27)).cell? ⟨w.heap.size + 1 + 1, 0, none⟩ = some (.int .i64 0) := z8.cell 0
  have df0 : (((w0.alloc (.cells #[.string nm] 9)).alloc (.cells #[.int .i64 s.kind, .slice L s.labels.length lc, .slice A s.args.length ac] 27)).alloc (.cells #[.int .i64 3, .slice (some ⟨w0.heap.size, 0, none⟩) 1 1, .slice (some ⟨w0.heap.size + 1, 0, none⟩) 1 1] 27)).frozen? ⟨w.heap.size + 1 + 1, 0, none⟩ = false := z8.free 0
  have d1 : (((w0.alloc (.cells #[.string nm] 9)).alloc (.cells #[.int .i64 s.kind, .slice L s.labels.length lc, .slice A s.args.length ac] 27)).alloc (.cells #[.int .i64 3, .slice (some ⟨w0.heap.size, 0, none⟩) 1 1, .slice (some ⟨w0.heap.size + 1, 0, none⟩) 1 1] 27)).cell? ⟨w.heap.size + 1 + 1, 1, none⟩ = some (.slice none 0 0) := z8.cell 1
  have df1 : (((w0.alloc (.cells #[.string nm] 9)).alloc (.cells #[.int .i64 s.kind, .slice L s.labels.length lc, .slice A s.args.length ac] 27)).alloc (.cells #[.int .i64 3, .slice (some ⟨w0.heap.size, 0, none⟩) 1 1, .slice (some ⟨w0.heap.size + 1, 0, none⟩) 1 1] 27)).frozen? ⟨w.heap.size + 1 + 1, 1, none⟩ = false := z8.free 1
  have d2 : (((w0.alloc (.cells #[.string nm] 9)).alloc (.cells #[.int .i64 s.kind, .slice L s.labels.length lc, .slice A s.args.length ac] 27)).alloc (.cells #[.int .i64 3, .slice (some ⟨w0.heap.size, 0, none⟩) 1 1, .slice (some ⟨w0.heap.size + 1, 0, none⟩) 1 1] 27)).cell? ⟨w.heap.size + 1 + 1, 2, none⟩ = some (.slice none 0 0) := z8.cell 2
  have df2 : (((w0.alloc (.cells #[.string nm] 9)).alloc (.cells #[.int .i64 s.kind, .slice L s.labels.length lc, .slice A s.args.length ac] 27)).alloc (.cells #[.int .i64 3, .slice (some ⟨w0.heap.size, 0, none⟩) 1 1, .slice (some ⟨w0.heap.size + 1, 0, none⟩) 1 1] 27)).frozen? ⟨w.heap.size + 1 + 1, 2, none⟩ = false := z8.free 2
  have d3 : (((w0.alloc (.cells #[.string nm] 9)).alloc (.cells #[.int .i64 s.kind, .slice L s.labels.length lc, .slice A s.args.length ac] 27)).alloc (.cells #[.int .i64 3, .slice (some ⟨w0.heap.size, 0, none⟩) 1 1, .slice (some ⟨w0.heap.size + 1, 0, none⟩) 1 1] 27)).cell? ⟨w.heap.size + 1 + 1, 3, none⟩ = some (.int .i64 0) := z8.cell 3
  have df3 : (((w0.alloc (.cells #[.string nm] 9)).alloc (.cells #[.int .i64 s.kind, .slice L s.labels.length lc, .slice A s.args.length ac] 27)).alloc (.cells #[.int .i64 3, .slice (some ⟨w0.heap.size, 0, none⟩) 1 1, .slice (some ⟨w0.heap.size + 1, 0, none⟩) 1 1] 27)).frozen? ⟨w.heap.size + 1 + 1, 3, none⟩ = false := z8.free 3
  have hb9 := (Below.refl w0.heap.size w0).alloc (Nat.le_refl _) (.cells #[.string nm] 9)
  have sr0 : (w0.alloc (.cells #[.string nm] 9)).cell? ⟨w.heap.size, 0, none⟩ = some (.int .i64 s.kind) := (HP0.out.below hb9 HP0.out.lt).cell 0
  have sr1 : (w0.alloc (.cells #[.string nm] 9)).cell? ⟨w.heap.size, 1, none⟩ = some (.slice L s.labels.length lc) := (HP0.out.below hb9 HP0.out.lt).cell 1
  have sr2 : (w0.alloc (.cells #[.string nm] 9)).cell? ⟨w.heap.size, 2, none⟩ = some (.slice A s.args.length ac) := (HP0.out.below hb9 HP0.out.lt).cell 2
  clear hs8 hown l8 r8 q8 hb8 z8 hst hval hse hnm hb9
  go_wp2
  exact bodyPost_ret (v := .tuple #[.agg #[.int .i64 3, .slice (some ⟨w0.heap.size, 0, none⟩) 1 1, .slice (some ⟨w0.heap.size + 1, 0, none⟩) 1 1, .int .i64 1], .nilIface]) (by simp [results, Tryz.results98, go_sem, d0, d1, d2, d3]) rfl (HF.out _ _ _ _)

end Go.Proofs.YthdfidhijmcbdaaGreatDoor
end

section
namespace Go.Proofs.YthdfidhijmcbdaaGreatDoor
set_option maxRecDepth 100000
set_option linter.unusedSimpArgs false
open Go.RowKit
attribute [local go_sem ↓] Go.wp_at_zero Go.wp_at_succ

set_option maxHeartbeats 4000000 in
theorem typKind_map (o1 : Ot) (h1 : TypOne o1) (f1 : formOt o1 = true) (n0 : Int) (nm : ByteArray) (B : Option Addr) (bc : Nat) {N : Nat → Prop} {u : Value} {r : Option (Ty × Int)} (s : Ty) (sv : Value) (w : World) (hN : ∀ b, N b → b < w.heap.size) (hU : UnfitAt w u) (hJ : JoinsAt w) (hv : OwnA N w sv s) (ho : OtAt w w.heap.size (.agg #[.int .i64 11, .string nm, .int .i64 n0, .slice B 1 bc]) (.mk 11 n0 nm [o1])) (hval : validB s = true) (hf : formOt (.mk 11 n0 nm [o1]) = true) (hz : szOt (.mk 11 n0 nm [o1]) ≤ 1048576) (hr : r = mapO (typeO o1) s) :
    Calls Tryz.prog 98 #[sv, .agg #[.int .i64 11, .string nm, .int .i64 n0, .slice B 1 bc]] w (TypPost N u r w) := by
  have hnm := form_name hf
  have hse := szTy_valid hval
  obtain ⟨L, lc, A, ac, rfl⟩ := hv.open
  obtain ⟨hb0, p0, q0, zz0, hs0⟩ := boxes3 w 27 30 60 #[.int .i64 s.kind, .slice L s.labels.length lc, .slice A s.args.length ac] #[.int .i64 11, .string nm, .int .i64 n0, .slice B 1 bc] #[.int .i64 0, .slice none 0 0, .slice none 0 0, .int .i64 0]
  have HV0 := Lib.hid ((hv.late (w.heap.size + 1 + 1) (by omega)).up hb0)
  have HO0 := Lib.hid (ho.up hb0)
  have HN0 := Lib.hid (show ∀ b, (N b ∨ b = w.heap.size + 1 + 1) → b < (((w.alloc (.cells #[.int .i64 s.kind, .slice L s.labels.length lc, .slice A s.args.length ac] 27)).alloc (.cells #[.int .i64 11, .string nm, .int .i64 n0, .slice B 1 bc] 30)).alloc (.cells #[.int .i64 0, .slice none 0 0, .slice none 0 0, .int .i64 0] 60)).heap.size from fun b hb => hb.elim (fun hb => Nat.lt_of_lt_of_le (hN b hb) hb0.size) (fun e => e ▸ zz0.lt))
  have HU0 := Lib.hid (hU.below hb0)
  have HJ0 := Lib.hid (hJ.below hb0)
  obtain ⟨hug, huc, ua, rfl⟩ := hU
  have HR := Lib.hid hr
  have HB0 := Lib.hid hb0
  have HZ0 := Lib.hid zz0
  have HP0 := Lib.hid p0
  have HQ0 := Lib.hid q0
  have HZZ := Lib.hid hz
  have HFO := Lib.hid hf
  have HOW := Lib.hid ho
  clear hv hN hr hJ hug huc ho hb0 zz0 p0 q0 hs0 hz hf
  go_enter Tryz.func98, Tryz.ntmps98
  go_upto_region 1 with fail
  generalize ((w.alloc (.cells #[.int .i64 s.kind, .slice L s.labels.length lc, .slice A s.args.length ac] 27)).alloc (.cells #[.int .i64 11, .string nm, .int .i64 n0, .slice B 1 bc] 30)).alloc (.cells #[.int .i64 0, .slice none 0 0, .slice none 0 0, .int .i64 0] 60) = w0 at *
  have sp0 : w0.cell? ⟨w.heap.size, 0, none⟩ = some (.int .i64 s.kind) := HP0.out.cell 0
  have sp1 : w0.cell? ⟨w.heap.size, 1, none⟩ = some (.slice L s.labels.length lc) := HP0.out.cell 1
  have sp2 : w0.cell? ⟨w.heap.size, 2, none⟩ = some (.slice A s.args.length ac) := HP0.out.cell 2
  have qo0 : w0.cell? ⟨w.heap.size + 1, 0, none⟩ = some (.int .i64 11) := HQ0.out.cell 0
  have qo1 : w0.cell? ⟨w.heap.size + 1, 1, none⟩ = some (.string nm) := HQ0.out.cell 1
  have qo2 : w0.cell? ⟨w.heap.size + 1, 2, none⟩ = some (.int .i64 n0) := HQ0.out.cell 2
  have qo3 : w0.cell? ⟨w.heap.size + 1, 3, none⟩ = some (.slice B 1 bc) := HQ0.out.cell 3
  have hzp := szOt_eq (.mk 11 n0 nm [o1])
  have hzq := HZZ.out
  have z1 : szOt o1 ≤ 1048576 := by
    have := szOt_part [o1] 0 (by simp)
    simp only [Ot.args] at hzp
    simp only [List.getElem_cons_zero] at this
    omega
  have hoa := oargs_at (ts := [o1]) HO0.out
  obtain ⟨b, off, B1, bc1, rfl, hbl, x0, x2, x1, x3, hx1⟩ := hoa.elem 0 (by simp)
  have y00 : w0.cell? ⟨b, off, none⟩ = some (.int .i64 o1.kind) := by have h := x0; simp only [Nat.zero_mul, Nat.add_zero] at h; exact h
  have y01 : w0.cell? ⟨b, off + 1, none⟩ = some (.string o1.name) := by have h := x1; simp only [Nat.zero_mul, Nat.add_zero] at h; exact h
  have y02 : w0.cell? ⟨b, off + 2, none⟩ = some (.int .i64 o1.num) := by have h := x2; simp only [Nat.zero_mul, Nat.add_zero] at h; exact h
  have y03 : w0.cell? ⟨b, off + 3, none⟩ = some (.slice B1 o1.args.length bc1) := by have h := x3; simp only [Nat.zero_mul, Nat.add_zero] at h; exact h
  have HX1 : Hid (OtAt w0 w0.heap.size (.agg #[.int .i64 o1.kind, .string o1.name, .int .i64 o1.num, .slice B1 o1.args.length bc1]) o1) := Lib.hid hx1
  have hpl := HP0.out.lt
  have hql := HQ0.out.lt
  have hnp : w.heap.size + 1 + 1 ≠ w.heap.size := by omega
  have hnq : w.heap.size + 1 + 1 ≠ w.heap.size + 1 := by omega
  have hbw : b < w.heap.size := by
    obtain ⟨b9, o9, _, _, h9, h9', _⟩ := (oargs_at (ts := [o1]) HOW.out).elem 0 (by simp)
    simp only [Option.some.injEq, Addr.mk.injEq] at h9
    omega
  have hne : w.heap.size + 1 + 1 ≠ b := by omega
  have HC : Hid (Calls Tryz.prog 117 #[.agg #[.int .i64 s.kind, .slice L s.labels.length lc, .slice A s.args.length ac], .agg #[.int .i64 o1.kind, .string o1.name, .int .i64 o1.num, .slice B1 o1.args.length bc1]] w0.drew (TypPost (fun b => N b ∨ b = w.heap.size + 1 + 1) (.iface 195 (.pointer (some ua))) r w0.drew)) := Lib.hid (typMap_any o1 h1 (N := fun b => N b ∨ b = w.heap.size + 1 + 1) (u := (.iface 195 (.pointer (some ua)))) (r := r) s _ _ _ HN0.out (HU0.out.below (Below.refl _ _).drew) (HJ0.out.below (Below.refl _ _).drew) (HV0.out.drew) (HX1.out.up (Below.refl _ _).drew) hval f1 z1 HR.out)
  clear hval hse hnm hzp hzq z1 hoa hx1 x0 x1 x2 x3 h1 f1
  go_upto_region 24 with fail
  have fa0 : w0.drew.cell? ⟨w.heap.size, 0, none⟩ = some (.int .i64 s.kind) := (HP0.out.cell 0)
  have fa1 : w0.drew.cell? ⟨w.heap.size, 1, none⟩ = some (.slice L s.labels.length lc) := (HP0.out.cell 1)
  have fa2 : w0.drew.cell? ⟨w.heap.size, 2, none⟩ = some (.slice A s.args.length ac) := (HP0.out.cell 2)
  have fa3 : w0.drew.cell? ⟨w.heap.size + 1, 3, none⟩ = some (.slice (some ⟨b, off, none⟩) 1 bc) := (HQ0.out.cell 3)
  have fa4 : w0.drew.cell? ⟨b, off, none⟩ = some (.int .i64 o1.kind) := (y00)
  have fa5 : w0.drew.cell? ⟨b, off + 1, none⟩ = some (.string o1.name) := (y01)
  have fa6 : w0.drew.cell? ⟨b, off + 2, none⟩ = some (.int .i64 o1.num) := (y02)
  have fa7 : w0.drew.cell? ⟨b, off + 3, none⟩ = some (.slice B1 o1.args.length bc1) := (y03)
  go_region_held3 (fun x' : World => x'.cell? ⟨w.heap.size, 0, none⟩ = some (.int .i64 s.kind) ∧ x'.cell? ⟨w.heap.size, 1, none⟩ = some (.slice L s.labels.length lc) ∧ x'.cell? ⟨w.heap.size, 2, none⟩ = some (.slice A s.args.length ac) ∧ x'.cell? ⟨w.heap.size + 1, 3, none⟩ = some (.slice (some ⟨b, off, none⟩) 1 bc) ∧ x'.cell? ⟨b, off, none⟩ = some (.int .i64 o1.kind) ∧ x'.cell? ⟨b, off + 1, none⟩ = some (.string o1.name) ∧ x'.cell? ⟨b, off + 2, none⟩ = some (.int .i64 o1.num) ∧ x'.cell? ⟨b, off + 3, none⟩ = some (.slice B1 o1.args.length bc1)) (first | with_reducible exact ⟨fa0, fa1, fa2, fa3, fa4, fa5, fa6, fa7⟩ | with_reducible exact ⟨fk0, fk1, fk2, fk3, fk4, fk5, fk6, fk7⟩ | with_reducible exact ⟨fl0, fl1, fl2, fl3, fl4, fl5, fl6, fl7⟩ | go_keep) (first | (go_simp; go_at_call 117; (with_reducible refine (HC.out).mono ?_); rintro e w9 ⟨L9, lc9, A9, ac9, t9, k9, x9, rfl, hv9, hb9', hs9, hor9⟩; have hb9 := (Below.refl w0.heap.size w0).drew.trans hb9'; have fk0 : w9.cell? ⟨w.heap.size, 0, none⟩ = some (.int .i64 s.kind) := (hb9.cell (p := ⟨w.heap.size, 0, none⟩) hpl).trans (HP0.out.cell 0); have fl0 : ((((w9.setCell ⟨w.heap.size + 1 + 1, 0, none⟩ (.int .i64 t9.kind)).setCell ⟨w.heap.size + 1 + 1, 1, none⟩ (.slice L9 t9.labels.length lc9)).setCell ⟨w.heap.size + 1 + 1, 2, none⟩ (.slice A9 t9.args.length ac9)).setCell ⟨w.heap.size + 1 + 1, 3, none⟩ (.int .i64 k9)).cell? ⟨w.heap.size, 0, none⟩ = some (.int .i64 s.kind) := typ_far _ _ _ _ _ fk0 (hnp); have fk1 : w9.cell? ⟨w.heap.size, 1, none⟩ = some (.slice L s.labels.length lc) := (hb9.cell (p := ⟨w.heap.size, 1, none⟩) hpl).trans (HP0.out.cell 1); have fl1 : ((((w9.setCell ⟨w.heap.size + 1 + 1, 0, none⟩ (.int .i64 t9.kind)).setCell ⟨w.heap.size + 1 + 1, 1, none⟩ (.slice L9 t9.labels.length lc9)).setCell ⟨w.heap.size + 1 + 1, 2, none⟩ (.slice A9 t9.args.length ac9)).setCell ⟨w.heap.size + 1 + 1, 3, none⟩ (.int .i64 k9)).cell? ⟨w.heap.size, 1, none⟩ = some (.slice L s.labels.length lc) := typ_far _ _ _ _ _ fk1 (hnp); have fk2 : w9.cell? ⟨w.heap.size, 2, none⟩ = some (.slice A s.args.length ac) := (hb9.cell (p := ⟨w.heap.size, 2, none⟩) hpl).trans (HP0.out.cell 2); have fl2 : ((((w9.setCell ⟨w.heap.size + 1 + 1, 0, none⟩ (.int .i64 t9.kind)).setCell ⟨w.heap.size + 1 + 1, 1, none⟩ (.slice L9 t9.labels.length lc9)).setCell ⟨w.heap.size + 1 + 1, 2, none⟩ (.slice A9 t9.args.length ac9)).setCell ⟨w.heap.size + 1 + 1, 3, none⟩ (.int .i64 k9)).cell? ⟨w.heap.size, 2, none⟩ = some (.slice A s.args.length ac) := typ_far _ _ _ _ _ fk2 (hnp); have fk3 : w9.cell? ⟨w.heap.size + 1, 3, none⟩ = some (.slice (some ⟨b, off, none⟩) 1 bc) := (hb9.cell (p := ⟨w.heap.size + 1, 3, none⟩) hql).trans (HQ0.out.cell 3); have fl3 : ((((w9.setCell ⟨w.heap.size + 1 + 1, 0, none⟩ (.int .i64 t9.kind)).setCell ⟨w.heap.size + 1 + 1, 1, none⟩ (.slice L9 t9.labels.length lc9)).setCell ⟨w.heap.size + 1 + 1, 2, none⟩ (.slice A9 t9.args.length ac9)).setCell ⟨w.heap.size + 1 + 1, 3, none⟩ (.int .i64 k9)).cell? ⟨w.heap.size + 1, 3, none⟩ = some (.slice (some ⟨b, off, none⟩) 1 bc) := typ_far _ _ _ _ _ fk3 (hnq); have fk4 : w9.cell? ⟨b, off, none⟩ = some (.int .i64 o1.kind) := (hb9.cell (p := ⟨b, off, none⟩) hbl).trans (y00); have fl4 : ((((w9.setCell ⟨w.heap.size + 1 + 1, 0, none⟩ (.int .i64 t9.kind)).setCell ⟨w.heap.size + 1 + 1, 1, none⟩ (.slice L9 t9.labels.length lc9)).setCell ⟨w.heap.size + 1 + 1, 2, none⟩ (.slice A9 t9.args.length ac9)).setCell ⟨w.heap.size + 1 + 1, 3, none⟩ (.int .i64 k9)).cell? ⟨b, off, none⟩ = some (.int .i64 o1.kind) := typ_far _ _ _ _ _ fk4 (hne); have fk5 : w9.cell? ⟨b, off + 1, none⟩ = some (.string o1.name) := (hb9.cell (p := ⟨b, off + 1, none⟩) hbl).trans (y01); have fl5 : ((((w9.setCell ⟨w.heap.size + 1 + 1, 0, none⟩ (.int .i64 t9.kind)).setCell ⟨w.heap.size + 1 + 1, 1, none⟩ (.slice L9 t9.labels.length lc9)).setCell ⟨w.heap.size + 1 + 1, 2, none⟩ (.slice A9 t9.args.length ac9)).setCell ⟨w.heap.size + 1 + 1, 3, none⟩ (.int .i64 k9)).cell? ⟨b, off + 1, none⟩ = some (.string o1.name) := typ_far _ _ _ _ _ fk5 (hne); have fk6 : w9.cell? ⟨b, off + 2, none⟩ = some (.int .i64 o1.num) := (hb9.cell (p := ⟨b, off + 2, none⟩) hbl).trans (y02); have fl6 : ((((w9.setCell ⟨w.heap.size + 1 + 1, 0, none⟩ (.int .i64 t9.kind)).setCell ⟨w.heap.size + 1 + 1, 1, none⟩ (.slice L9 t9.labels.length lc9)).setCell ⟨w.heap.size + 1 + 1, 2, none⟩ (.slice A9 t9.args.length ac9)).setCell ⟨w.heap.size + 1 + 1, 3, none⟩ (.int .i64 k9)).cell? ⟨b, off + 2, none⟩ = some (.int .i64 o1.num) := typ_far _ _ _ _ _ fk6 (hne); have fk7 : w9.cell? ⟨b, off + 3, none⟩ = some (.slice B1 o1.args.length bc1) := (hb9.cell (p := ⟨b, off + 3, none⟩) hbl).trans (y03); have fl7 : ((((w9.setCell ⟨w.heap.size + 1 + 1, 0, none⟩ (.int .i64 t9.kind)).setCell ⟨w.heap.size + 1 + 1, 1, none⟩ (.slice L9 t9.labels.length lc9)).setCell ⟨w.heap.size + 1 + 1, 2, none⟩ (.slice A9 t9.args.length ac9)).setCell ⟨w.heap.size + 1 + 1, 3, none⟩ (.int .i64 k9)).cell? ⟨b, off + 3, none⟩ = some (.slice B1 o1.args.length bc1) := typ_far _ _ _ _ _ fk7 (hne); have z9 := HZ0.out.below hb9 HZ0.out.lt; have d0 : w9.cell? ⟨w.heap.size + 1 + 1, 0, none⟩ = some (.int .i64 0) := z9.cell 0; have df0 : w9.frozen? ⟨w.heap.size + 1 + 1, 0, none⟩ = false := z9.free 0; have d1 : w9.cell? ⟨w.heap.size + 1 + 1, 1, none⟩ = some (.slice none 0 0) := z9.cell 1; have df1 : w9.frozen? ⟨w.heap.size + 1 + 1, 1, none⟩ = false := z9.free 1; have d2 : w9.cell? ⟨w.heap.size + 1 + 1, 2, none⟩ = some (.slice none 0 0) := z9.cell 2; have df2 : w9.frozen? ⟨w.heap.size + 1 + 1, 2, none⟩ = false := z9.free 2; have d3 : w9.cell? ⟨w.heap.size + 1 + 1, 3, none⟩ = some (.int .i64 0) := z9.cell 3; have df3 : w9.frozen? ⟨w.heap.size + 1 + 1, 3, none⟩ = false := z9.free 3; have HF := Lib.hid (fun a b c d => typ_fin (r := r) (show w.heap.size ≤ w.heap.size + 1 + 1 by omega) (HB0.out.trans (hb9.mono HB0.out.size)) hv9 hs9 hor9 a b c d); clear hv9 hs9 hor9; clear hb9' hb9 z9))
  all_goals go_wp2
  all_goals exact bodyPost_ret (v := .tuple #[.agg #[.int .i64 t9.kind, .slice L9 t9.labels.length lc9, .slice A9 t9.args.length ac9, .int .i64 k9], x9]) (by simp [results, Tryz.results98, go_sem, d0, d1, d2, d3]) rfl (HF.out _ _ _ _)

set_option maxHeartbeats 4000000 in
theorem typKind_then (o1 o2 : Ot) (h1 : TypOne o1) (h2 : TypOne o2) (f1 : formOt o1 = true) (f2 : formOt o2 = true) (n0 : Int) (nm : ByteArray) (B : Option Addr) (bc : Nat) {N : Nat → Prop} {u : Value} {r : Option (Ty × Int)} (s : Ty) (sv : Value) (w : World) (hN : ∀ b, N b → b < w.heap.size) (hU : UnfitAt w u) (hJ : JoinsAt w) (hv : OwnA N w sv s) (ho : OtAt w w.heap.size (.agg #[.int .i64 12, .string nm, .int .i64 n0, .slice B 2 bc]) (.mk 12 n0 nm [o1, o2])) (hval : validB s = true) (hf : formOt (.mk 12 n0 nm [o1, o2]) = true) (hz : szOt (.mk 12 n0 nm [o1, o2]) ≤ 1048576) (hr : r = thenO (typeO o1) (typeO o2) s) :
    Calls Tryz.prog 98 #[sv, .agg #[.int .i64 12, .string nm, .int .i64 n0, .slice B 2 bc]] w (TypPost N u r w) := by
  have hnm := form_name hf
  have hse := szTy_valid hval
  obtain ⟨L, lc, A, ac, rfl⟩ := hv.open
  obtain ⟨hb0, p0, q0, zz0, hs0⟩ := boxes3 w 27 30 60 #[.int .i64 s.kind, .slice L s.labels.length lc, .slice A s.args.length ac] #[.int .i64 12, .string nm, .int .i64 n0, .slice B 2 bc] #[.int .i64 0, .slice none 0 0, .slice none 0 0, .int .i64 0]
  have HV0 := Lib.hid ((hv.late (w.heap.size + 1 + 1) (by omega)).up hb0)
  have HO0 := Lib.hid (ho.up hb0)
  have HN0 := Lib.hid (show ∀ b, (N b ∨ b = w.heap.size + 1 + 1) → b < (((w.alloc (.cells #[.int .i64 s.kind, .slice L s.labels.length lc, .slice A s.args.length ac] 27)).alloc (.cells #[.int .i64 12, .string nm, .int .i64 n0, .slice B 2 bc] 30)).alloc (.cells #[.int .i64 0, .slice none 0 0, .slice none 0 0, .int .i64 0] 60)).heap.size from fun b hb => hb.elim (fun hb => Nat.lt_of_lt_of_le (hN b hb) hb0.size) (fun e => e ▸ zz0.lt))
  have HU0 := Lib.hid (hU.below hb0)
  have HJ0 := Lib.hid (hJ.below hb0)
  obtain ⟨hug, huc, ua, rfl⟩ := hU
  have HR := Lib.hid hr
  have HB0 := Lib.hid hb0
  have HZ0 := Lib.hid zz0
  have HP0 := Lib.hid p0
  have HQ0 := Lib.hid q0
  have HZZ := Lib.hid hz
  have HFO := Lib.hid hf
  have HOW := Lib.hid ho
  clear hv hN hr hJ hug huc ho hb0 zz0 p0 q0 hs0 hz hf
  go_enter Tryz.func98, Tryz.ntmps98
  go_upto_region 1 with fail
  generalize ((w.alloc (.cells #[.int .i64 s.kind, .slice L s.labels.length lc, .slice A s.args.length ac] 27)).alloc (.cells #[.int .i64 12, .string nm, .int .i64 n0, .slice B 2 bc] 30)).alloc (.cells #[.int .i64 0, .slice none 0 0, .slice none 0 0, .int .i64 0] 60) = w0 at *
  have sp0 : w0.cell? ⟨w.heap.size, 0, none⟩ = some (.int .i64 s.kind) := HP0.out.cell 0
  have sp1 : w0.cell? ⟨w.heap.size, 1, none⟩ = some (.slice L s.labels.length lc) := HP0.out.cell 1
  have sp2 : w0.cell? ⟨w.heap.size, 2, none⟩ = some (.slice A s.args.length ac) := HP0.out.cell 2
  have qo0 : w0.cell? ⟨w.heap.size + 1, 0, none⟩ = some (.int .i64 12) := HQ0.out.cell 0
  have qo1 : w0.cell? ⟨w.heap.size + 1, 1, none⟩ = some (.string nm) := HQ0.out.cell 1
  have qo2 : w0.cell? ⟨w.heap.size + 1, 2, none⟩ = some (.int .i64 n0) := HQ0.out.cell 2
  have qo3 : w0.cell? ⟨w.heap.size + 1, 3, none⟩ = some (.slice B 2 bc) := HQ0.out.cell 3
  have hzp := szOt_eq (.mk 12 n0 nm [o1, o2])
  have hzq := HZZ.out
  have z1 : szOt o1 ≤ 1048576 := by
    have := szOt_part [o1, o2] 0 (by simp)
    simp only [Ot.args] at hzp
    simp only [List.getElem_cons_zero] at this
    omega
  have z2 : szOt o2 ≤ 1048576 := by
    have := szOt_part [o1, o2] 1 (by simp)
    simp only [Ot.args] at hzp
    simp only [List.getElem_cons_succ, List.getElem_cons_zero] at this
    omega
  have hoa := oargs_at (ts := [o1, o2]) HO0.out
  obtain ⟨b, off, B1, bc1, rfl, hbl, x0, x2, x1, x3, hx1⟩ := hoa.elem 0 (by simp)
  have y00 : w0.cell? ⟨b, off, none⟩ = some (.int .i64 o1.kind) := by have h := x0; simp only [Nat.zero_mul, Nat.add_zero] at h; exact h
  have y01 : w0.cell? ⟨b, off + 1, none⟩ = some (.string o1.name) := by have h := x1; simp only [Nat.zero_mul, Nat.add_zero] at h; exact h
  have y02 : w0.cell? ⟨b, off + 2, none⟩ = some (.int .i64 o1.num) := by have h := x2; simp only [Nat.zero_mul, Nat.add_zero] at h; exact h
  have y03 : w0.cell? ⟨b, off + 3, none⟩ = some (.slice B1 o1.args.length bc1) := by have h := x3; simp only [Nat.zero_mul, Nat.add_zero] at h; exact h
  have HX1 : Hid (OtAt w0 w0.heap.size (.agg #[.int .i64 o1.kind, .string o1.name, .int .i64 o1.num, .slice B1 o1.args.length bc1]) o1) := Lib.hid hx1
  obtain ⟨b', off', B2, bc2, hbb, _, x0', x2', x1', x3', hx2⟩ := hoa.elem 1 (by simp)
  simp only [Option.some.injEq, Addr.mk.injEq, and_true] at hbb
  obtain ⟨rfl, rfl⟩ := hbb
  have y10 : w0.cell? ⟨b, off + 4, none⟩ = some (.int .i64 o2.kind) := by have h := x0'; simp only [Nat.one_mul] at h; exact h
  have y11 : w0.cell? ⟨b, off + 4 + 1, none⟩ = some (.string o2.name) := by have h := x1'; simp only [Nat.one_mul] at h; exact h
  have y12 : w0.cell? ⟨b, off + 4 + 2, none⟩ = some (.int .i64 o2.num) := by have h := x2'; simp only [Nat.one_mul] at h; exact h
  have y13 : w0.cell? ⟨b, off + 4 + 3, none⟩ = some (.slice B2 o2.args.length bc2) := by have h := x3'; simp only [Nat.one_mul] at h; exact h
  have HX2 : Hid (OtAt w0 w0.heap.size (.agg #[.int .i64 o2.kind, .string o2.name, .int .i64 o2.num, .slice B2 o2.args.length bc2]) o2) := Lib.hid hx2
  have hpl := HP0.out.lt
  have hql := HQ0.out.lt
  have hnp : w.heap.size + 1 + 1 ≠ w.heap.size := by omega
  have hnq : w.heap.size + 1 + 1 ≠ w.heap.size + 1 := by omega
  have hbw : b < w.heap.size := by
    obtain ⟨b9, o9, _, _, h9, h9', _⟩ := (oargs_at (ts := [o1, o2]) HOW.out).elem 0 (by simp)
    simp only [Option.some.injEq, Addr.mk.injEq] at h9
    omega
  have hne : w.heap.size + 1 + 1 ≠ b := by omega
  have HC : Hid (Calls Tryz.prog 118 #[.agg #[.int .i64 s.kind, .slice L s.labels.length lc, .slice A s.args.length ac], .agg #[.int .i64 o1.kind, .string o1.name, .int .i64 o1.num, .slice B1 o1.args.length bc1], .agg #[.int .i64 o2.kind, .string o2.name, .int .i64 o2.num, .slice B2 o2.args.length bc2]] w0.drew (TypPost (fun b => N b ∨ b = w.heap.size + 1 + 1) (.iface 195 (.pointer (some ua))) r w0.drew)) := Lib.hid (typThen_any o1 o2 h1 h2 (N := fun b => N b ∨ b = w.heap.size + 1 + 1) (u := (.iface 195 (.pointer (some ua)))) (r := r) s _ _ _ _ HN0.out (HU0.out.below (Below.refl _ _).drew) (HJ0.out.below (Below.refl _ _).drew) (HV0.out.drew) (HX1.out.up (Below.refl _ _).drew) (HX2.out.up (Below.refl _ _).drew) hval f1 f2 z1 z2 HR.out)
  clear hval hse hnm hzp hzq z1 hoa hx1 x0 x1 x2 x3 h1 f1 z2 hx2 x0' x1' x2' x3' h2 f2
  go_upto_region 26 with fail
  have fa0 : w0.drew.cell? ⟨w.heap.size, 0, none⟩ = some (.int .i64 s.kind) := (HP0.out.cell 0)
  have fa1 : w0.drew.cell? ⟨w.heap.size, 1, none⟩ = some (.slice L s.labels.length lc) := (HP0.out.cell 1)
  have fa2 : w0.drew.cell? ⟨w.heap.size, 2, none⟩ = some (.slice A s.args.length ac) := (HP0.out.cell 2)
  have fa3 : w0.drew.cell? ⟨w.heap.size + 1, 3, none⟩ = some (.slice (some ⟨b, off, none⟩) 2 bc) := (HQ0.out.cell 3)
  have fa4 : w0.drew.cell? ⟨b, off, none⟩ = some (.int .i64 o1.kind) := (y00)
  have fa5 : w0.drew.cell? ⟨b, off + 1, none⟩ = some (.string o1.name) := (y01)
  have fa6 : w0.drew.cell? ⟨b, off + 2, none⟩ = some (.int .i64 o1.num) := (y02)
  have fa7 : w0.drew.cell? ⟨b, off + 3, none⟩ = some (.slice B1 o1.args.length bc1) := (y03)
  have fa8 : w0.drew.cell? ⟨b, off + 4, none⟩ = some (.int .i64 o2.kind) := (y10)
  have fa9 : w0.drew.cell? ⟨b, off + 4 + 1, none⟩ = some (.string o2.name) := (y11)
  have fa10 : w0.drew.cell? ⟨b, off + 4 + 2, none⟩ = some (.int .i64 o2.num) := (y12)
  have fa11 : w0.drew.cell? ⟨b, off + 4 + 3, none⟩ = some (.slice B2 o2.args.length bc2) := (y13)
  go_region_held3 (fun x' : World => x'.cell? ⟨w.heap.size, 0, none⟩ = some (.int .i64 s.kind) ∧ x'.cell? ⟨w.heap.size, 1, none⟩ = some (.slice L s.labels.length lc) ∧ x'.cell? ⟨w.heap.size, 2, none⟩ = some (.slice A s.args.length ac) ∧ x'.cell? ⟨w.heap.size + 1, 3, none⟩ = some (.slice (some ⟨b, off, none⟩) 2 bc) ∧ x'.cell? ⟨b, off, none⟩ = some (.int .i64 o1.kind) ∧ x'.cell? ⟨b, off + 1, none⟩ = some (.string o1.name) ∧ x'.cell? ⟨b, off + 2, none⟩ = some (.int .i64 o1.num) ∧ x'.cell? ⟨b, off + 3, none⟩ = some (.slice B1 o1.args.length bc1) ∧ x'.cell? ⟨b, off + 4, none⟩ = some (.int .i64 o2.kind) ∧ x'.cell? ⟨b, off + 4 + 1, none⟩ = some (.string o2.name) ∧ x'.cell? ⟨b, off + 4 + 2, none⟩ = some (.int .i64 o2.num) ∧ x'.cell? ⟨b, off + 4 + 3, none⟩ = some (.slice B2 o2.args.length bc2)) (first | with_reducible exact ⟨fa0, fa1, fa2, fa3, fa4, fa5, fa6, fa7, fa8, fa9, fa10, fa11⟩ | with_reducible exact ⟨fk0, fk1, fk2, fk3, fk4, fk5, fk6, fk7, fk8, fk9, fk10, fk11⟩ | with_reducible exact ⟨fl0, fl1, fl2, fl3, fl4, fl5, fl6, fl7, fl8, fl9, fl10, fl11⟩ | go_keep) (first | (go_simp; go_at_call 118; (with_reducible refine (HC.out).mono ?_); rintro e w9 ⟨L9, lc9, A9, ac9, t9, k9, x9, rfl, hv9, hb9', hs9, hor9⟩; have hb9 := (Below.refl w0.heap.size w0).drew.trans hb9'; have fk0 : w9.cell? ⟨w.heap.size, 0, none⟩ = some (.int .i64 s.kind) := (hb9.cell (p := ⟨w.heap.size, 0, none⟩) hpl).trans (HP0.out.cell 0); have fl0 : ((((w9.setCell ⟨w.heap.size + 1 + 1, 0, none⟩ (.int .i64 t9.kind)).setCell ⟨w.heap.size + 1 + 1, 1, none⟩ (.slice L9 t9.labels.length lc9)).setCell ⟨w.heap.size + 1 + 1, 2, none⟩ (.slice A9 t9.args.length ac9)).setCell ⟨w.heap.size + 1 + 1, 3, none⟩ (.int .i64 k9)).cell? ⟨w.heap.size, 0, none⟩ = some (.int .i64 s.kind) := typ_far _ _ _ _ _ fk0 (hnp); have fk1 : w9.cell? ⟨w.heap.size, 1, none⟩ = some (.slice L s.labels.length lc) := (hb9.cell (p := ⟨w.heap.size, 1, none⟩) hpl).trans (HP0.out.cell 1); have fl1 : ((((w9.setCell ⟨w.heap.size + 1 + 1, 0, none⟩ (.int .i64 t9.kind)).setCell ⟨w.heap.size + 1 + 1, 1, none⟩ (.slice L9 t9.labels.length lc9)).setCell ⟨w.heap.size + 1 + 1, 2, none⟩ (.slice A9 t9.args.length ac9)).setCell ⟨w.heap.size + 1 + 1, 3, none⟩ (.int .i64 k9)).cell? ⟨w.heap.size, 1, none⟩ = some (.slice L s.labels.length lc) := typ_far _ _ _ _ _ fk1 (hnp); have fk2 : w9.cell? ⟨w.heap.size, 2, none⟩ = some (.slice A s.args.length ac) := (hb9.cell (p := ⟨w.heap.size, 2, none⟩) hpl).trans (HP0.out.cell 2); have fl2 : ((((w9.setCell ⟨w.heap.size + 1 + 1, 0, none⟩ (.int .i64 t9.kind)).setCell ⟨w.heap.size + 1 + 1, 1, none⟩ (.slice L9 t9.labels.length lc9)).setCell ⟨w.heap.size + 1 + 1, 2, none⟩ (.slice A9 t9.args.length ac9)).setCell ⟨w.heap.size + 1 + 1, 3, none⟩ (.int .i64 k9)).cell? ⟨w.heap.size, 2, none⟩ = some (.slice A s.args.length ac) := typ_far _ _ _ _ _ fk2 (hnp); have fk3 : w9.cell? ⟨w.heap.size + 1, 3, none⟩ = some (.slice (some ⟨b, off, none⟩) 2 bc) := (hb9.cell (p := ⟨w.heap.size + 1, 3, none⟩) hql).trans (HQ0.out.cell 3); have fl3 : ((((w9.setCell ⟨w.heap.size + 1 + 1, 0, none⟩ (.int .i64 t9.kind)).setCell ⟨w.heap.size + 1 + 1, 1, none⟩ (.slice L9 t9.labels.length lc9)).setCell ⟨w.heap.size + 1 + 1, 2, none⟩ (.slice A9 t9.args.length ac9)).setCell ⟨w.heap.size + 1 + 1, 3, none⟩ (.int .i64 k9)).cell? ⟨w.heap.size + 1, 3, none⟩ = some (.slice (some ⟨b, off, none⟩) 2 bc) := typ_far _ _ _ _ _ fk3 (hnq); have fk4 : w9.cell? ⟨b, off, none⟩ = some (.int .i64 o1.kind) := (hb9.cell (p := ⟨b, off, none⟩) hbl).trans (y00); have fl4 : ((((w9.setCell ⟨w.heap.size + 1 + 1, 0, none⟩ (.int .i64 t9.kind)).setCell ⟨w.heap.size + 1 + 1, 1, none⟩ (.slice L9 t9.labels.length lc9)).setCell ⟨w.heap.size + 1 + 1, 2, none⟩ (.slice A9 t9.args.length ac9)).setCell ⟨w.heap.size + 1 + 1, 3, none⟩ (.int .i64 k9)).cell? ⟨b, off, none⟩ = some (.int .i64 o1.kind) := typ_far _ _ _ _ _ fk4 (hne); have fk5 : w9.cell? ⟨b, off + 1, none⟩ = some (.string o1.name) := (hb9.cell (p := ⟨b, off + 1, none⟩) hbl).trans (y01); have fl5 : ((((w9.setCell ⟨w.heap.size + 1 + 1, 0, none⟩ (.int .i64 t9.kind)).setCell ⟨w.heap.size + 1 + 1, 1, none⟩ (.slice L9 t9.labels.length lc9)).setCell ⟨w.heap.size + 1 + 1, 2, none⟩ (.slice A9 t9.args.length ac9)).setCell ⟨w.heap.size + 1 + 1, 3, none⟩ (.int .i64 k9)).cell? ⟨b, off + 1, none⟩ = some (.string o1.name) := typ_far _ _ _ _ _ fk5 (hne); have fk6 : w9.cell? ⟨b, off + 2, none⟩ = some (.int .i64 o1.num) := (hb9.cell (p := ⟨b, off + 2, none⟩) hbl).trans (y02); have fl6 : ((((w9.setCell ⟨w.heap.size + 1 + 1, 0, none⟩ (.int .i64 t9.kind)).setCell ⟨w.heap.size + 1 + 1, 1, none⟩ (.slice L9 t9.labels.length lc9)).setCell ⟨w.heap.size + 1 + 1, 2, none⟩ (.slice A9 t9.args.length ac9)).setCell ⟨w.heap.size + 1 + 1, 3, none⟩ (.int .i64 k9)).cell? ⟨b, off + 2, none⟩ = some (.int .i64 o1.num) := typ_far _ _ _ _ _ fk6 (hne); have fk7 : w9.cell? ⟨b, off + 3, none⟩ = some (.slice B1 o1.args.length bc1) := (hb9.cell (p := ⟨b, off + 3, none⟩) hbl).trans (y03); have fl7 : ((((w9.setCell ⟨w.heap.size + 1 + 1, 0, none⟩ (.int .i64 t9.kind)).setCell ⟨w.heap.size + 1 + 1, 1, none⟩ (.slice L9 t9.labels.length lc9)).setCell ⟨w.heap.size + 1 + 1, 2, none⟩ (.slice A9 t9.args.length ac9)).setCell ⟨w.heap.size + 1 + 1, 3, none⟩ (.int .i64 k9)).cell? ⟨b, off + 3, none⟩ = some (.slice B1 o1.args.length bc1) := typ_far _ _ _ _ _ fk7 (hne); have fk8 : w9.cell? ⟨b, off + 4, none⟩ = some (.int .i64 o2.kind) := (hb9.cell (p := ⟨b, off + 4, none⟩) hbl).trans (y10); have fl8 : ((((w9.setCell ⟨w.heap.size + 1 + 1, 0, none⟩ (.int .i64 t9.kind)).setCell ⟨w.heap.size + 1 + 1, 1, none⟩ (.slice L9 t9.labels.length lc9)).setCell ⟨w.heap.size + 1 + 1, 2, none⟩ (.slice A9 t9.args.length ac9)).setCell ⟨w.heap.size + 1 + 1, 3, none⟩ (.int .i64 k9)).cell? ⟨b, off + 4, none⟩ = some (.int .i64 o2.kind) := typ_far _ _ _ _ _ fk8 (hne); have fk9 : w9.cell? ⟨b, off + 4 + 1, none⟩ = some (.string o2.name) := (hb9.cell (p := ⟨b, off + 4 + 1, none⟩) hbl).trans (y11); have fl9 : ((((w9.setCell ⟨w.heap.size + 1 + 1, 0, none⟩ (.int .i64 t9.kind)).setCell ⟨w.heap.size + 1 + 1, 1, none⟩ (.slice L9 t9.labels.length lc9)).setCell ⟨w.heap.size + 1 + 1, 2, none⟩ (.slice A9 t9.args.length ac9)).setCell ⟨w.heap.size + 1 + 1, 3, none⟩ (.int .i64 k9)).cell? ⟨b, off + 4 + 1, none⟩ = some (.string o2.name) := typ_far _ _ _ _ _ fk9 (hne); have fk10 : w9.cell? ⟨b, off + 4 + 2, none⟩ = some (.int .i64 o2.num) := (hb9.cell (p := ⟨b, off + 4 + 2, none⟩) hbl).trans (y12); have fl10 : ((((w9.setCell ⟨w.heap.size + 1 + 1, 0, none⟩ (.int .i64 t9.kind)).setCell ⟨w.heap.size + 1 + 1, 1, none⟩ (.slice L9 t9.labels.length lc9)).setCell ⟨w.heap.size + 1 + 1, 2, none⟩ (.slice A9 t9.args.length ac9)).setCell ⟨w.heap.size + 1 + 1, 3, none⟩ (.int .i64 k9)).cell? ⟨b, off + 4 + 2, none⟩ = some (.int .i64 o2.num) := typ_far _ _ _ _ _ fk10 (hne); have fk11 : w9.cell? ⟨b, off + 4 + 3, none⟩ = some (.slice B2 o2.args.length bc2) := (hb9.cell (p := ⟨b, off + 4 + 3, none⟩) hbl).trans (y13); have fl11 : ((((w9.setCell ⟨w.heap.size + 1 + 1, 0, none⟩ (.int .i64 t9.kind)).setCell ⟨w.heap.size + 1 + 1, 1, none⟩ (.slice L9 t9.labels.length lc9)).setCell ⟨w.heap.size + 1 + 1, 2, none⟩ (.slice A9 t9.args.length ac9)).setCell ⟨w.heap.size + 1 + 1, 3, none⟩ (.int .i64 k9)).cell? ⟨b, off + 4 + 3, none⟩ = some (.slice B2 o2.args.length bc2) := typ_far _ _ _ _ _ fk11 (hne); have z9 := HZ0.out.below hb9 HZ0.out.lt; have d0 : w9.cell? ⟨w.heap.size + 1 + 1, 0, none⟩ = some (.int .i64 0) := z9.cell 0; have df0 : w9.frozen? ⟨w.heap.size + 1 + 1, 0, none⟩ = false := z9.free 0; have d1 : w9.cell? ⟨w.heap.size + 1 + 1, 1, none⟩ = some (.slice none 0 0) := z9.cell 1; have df1 : w9.frozen? ⟨w.heap.size + 1 + 1, 1, none⟩ = false := z9.free 1; have d2 : w9.cell? ⟨w.heap.size + 1 + 1, 2, none⟩ = some (.slice none 0 0) := z9.cell 2; have df2 : w9.frozen? ⟨w.heap.size + 1 + 1, 2, none⟩ = false := z9.free 2; have d3 : w9.cell? ⟨w.heap.size + 1 + 1, 3, none⟩ = some (.int .i64 0) := z9.cell 3; have df3 : w9.frozen? ⟨w.heap.size + 1 + 1, 3, none⟩ = false := z9.free 3; have HF := Lib.hid (fun a b c d => typ_fin (r := r) (show w.heap.size ≤ w.heap.size + 1 + 1 by omega) (HB0.out.trans (hb9.mono HB0.out.size)) hv9 hs9 hor9 a b c d); clear hv9 hs9 hor9; clear hb9' hb9 z9))
  all_goals go_wp2
  all_goals exact bodyPost_ret (v := .tuple #[.agg #[.int .i64 t9.kind, .slice L9 t9.labels.length lc9, .slice A9 t9.args.length ac9, .int .i64 k9], x9]) (by simp [results, Tryz.results98, go_sem, d0, d1, d2, d3]) rfl (HF.out _ _ _ _)

set_option maxHeartbeats 4000000 in
theorem typKind_else (o1 o2 : Ot) (h1 : TypOne o1) (h2 : TypOne o2) (f1 : formOt o1 = true) (f2 : formOt o2 = true) (n0 : Int) (nm : ByteArray) (B : Option Addr) (bc : Nat) {N : Nat → Prop} {u : Value} {r : Option (Ty × Int)} (s : Ty) (sv : Value) (w : World) (hN : ∀ b, N b → b < w.heap.size) (hU : UnfitAt w u) (hJ : JoinsAt w) (hv : OwnA N w sv s) (ho : OtAt w w.heap.size (.agg #[.int .i64 13, .string nm, .int .i64 n0, .slice B 2 bc]) (.mk 13 n0 nm [o1, o2])) (hval : validB s = true) (hf : formOt (.mk 13 n0 nm [o1, o2]) = true) (hz : szOt (.mk 13 n0 nm [o1, o2]) ≤ 1048576) (hr : r = elseO (typeO o1) (typeO o2) s) :
    Calls Tryz.prog 98 #[sv, .agg #[.int .i64 13, .string nm, .int .i64 n0, .slice B 2 bc]] w (TypPost N u r w) := by
  have hnm := form_name hf
  have hse := szTy_valid hval
  obtain ⟨L, lc, A, ac, rfl⟩ := hv.open
  obtain ⟨hb0, p0, q0, zz0, hs0⟩ := boxes3 w 27 30 60 #[.int .i64 s.kind, .slice L s.labels.length lc, .slice A s.args.length ac] #[.int .i64 13, .string nm, .int .i64 n0, .slice B 2 bc] #[.int .i64 0, .slice none 0 0, .slice none 0 0, .int .i64 0]
  have HV0 := Lib.hid ((hv.late (w.heap.size + 1 + 1) (by omega)).up hb0)
  have HO0 := Lib.hid (ho.up hb0)
  have HN0 := Lib.hid (show ∀ b, (N b ∨ b = w.heap.size + 1 + 1) → b < (((w.alloc (.cells #[.int .i64 s.kind, .slice L s.labels.length lc, .slice A s.args.length ac] 27)).alloc (.cells #[.int .i64 13, .string nm, .int .i64 n0, .slice B 2 bc] 30)).alloc (.cells #[.int .i64 0, .slice none 0 0, .slice none 0 0, .int .i64 0] 60)).heap.size from fun b hb => hb.elim (fun hb => Nat.lt_of_lt_of_le (hN b hb) hb0.size) (fun e => e ▸ zz0.lt))
  have HU0 := Lib.hid (hU.below hb0)
  have HJ0 := Lib.hid (hJ.below hb0)
  obtain ⟨hug, huc, ua, rfl⟩ := hU
  have HR := Lib.hid hr
  have HB0 := Lib.hid hb0
  have HZ0 := Lib.hid zz0
  have HP0 := Lib.hid p0
  have HQ0 := Lib.hid q0
  have HZZ := Lib.hid hz
  have HFO := Lib.hid hf
  have HOW := Lib.hid ho
  clear hv hN hr hJ hug huc ho hb0 zz0 p0 q0 hs0 hz hf
  go_enter Tryz.func98, Tryz.ntmps98
  go_upto_region 1 with fail
  generalize ((w.alloc (.cells #[.int .i64 s.kind, .slice L s.labels.length lc, .slice A s.args.length ac] 27)).alloc (.cells #[.int .i64 13, .string nm, .int .i64 n0, .slice B 2 bc] 30)).alloc (.cells #[.int .i64 0, .slice none 0 0, .slice none 0 0, .int .i64 0] 60) = w0 at *
  have sp0 : w0.cell? ⟨w.heap.size, 0, none⟩ = some (.int .i64 s.kind) := HP0.out.cell 0
  have sp1 : w0.cell? ⟨w.heap.size, 1, none⟩ = some (.slice L s.labels.length lc) := HP0.out.cell 1
  have sp2 : w0.cell? ⟨w.heap.size, 2, none⟩ = some (.slice A s.args.length ac) := HP0.out.cell 2
  have qo0 : w0.cell? ⟨w.heap.size + 1, 0, none⟩ = some (.int .i64 13) := HQ0.out.cell 0
  have qo1 : w0.cell? ⟨w.heap.size + 1, 1, none⟩ = some (.string nm) := HQ0.out.cell 1
  have qo2 : w0.cell? ⟨w.heap.size + 1, 2, none⟩ = some (.int .i64 n0) := HQ0.out.cell 2
  have qo3 : w0.cell? ⟨w.heap.size + 1, 3, none⟩ = some (.slice B 2 bc) := HQ0.out.cell 3
  have hzp := szOt_eq (.mk 13 n0 nm [o1, o2])
  have hzq := HZZ.out
  have z1 : szOt o1 ≤ 1048576 := by
    have := szOt_part [o1, o2] 0 (by simp)
    simp only [Ot.args] at hzp
    simp only [List.getElem_cons_zero] at this
    omega
  have z2 : szOt o2 ≤ 1048576 := by
    have := szOt_part [o1, o2] 1 (by simp)
    simp only [Ot.args] at hzp
    simp only [List.getElem_cons_succ, List.getElem_cons_zero] at this
    omega
  have hoa := oargs_at (ts := [o1, o2]) HO0.out
  obtain ⟨b, off, B1, bc1, rfl, hbl, x0, x2, x1, x3, hx1⟩ := hoa.elem 0 (by simp)
  have y00 : w0.cell? ⟨b, off, none⟩ = some (.int .i64 o1.kind) := by have h := x0; simp only [Nat.zero_mul, Nat.add_zero] at h; exact h
  have y01 : w0.cell? ⟨b, off + 1, none⟩ = some (.string o1.name) := by have h := x1; simp only [Nat.zero_mul, Nat.add_zero] at h; exact h
  have y02 : w0.cell? ⟨b, off + 2, none⟩ = some (.int .i64 o1.num) := by have h := x2; simp only [Nat.zero_mul, Nat.add_zero] at h; exact h
  have y03 : w0.cell? ⟨b, off + 3, none⟩ = some (.slice B1 o1.args.length bc1) := by have h := x3; simp only [Nat.zero_mul, Nat.add_zero] at h; exact h
  have HX1 : Hid (OtAt w0 w0.heap.size (.agg #[.int .i64 o1.kind, .string o1.name, .int .i64 o1.num, .slice B1 o1.args.length bc1]) o1) := Lib.hid hx1
  obtain ⟨b', off', B2, bc2, hbb, _, x0', x2', x1', x3', hx2⟩ := hoa.elem 1 (by simp)
  simp only [Option.some.injEq, Addr.mk.injEq, and_true] at hbb
  obtain ⟨rfl, rfl⟩ := hbb
  have y10 : w0.cell? ⟨b, off + 4, none⟩ = some (.int .i64 o2.kind) := by have h := x0'; simp only [Nat.one_mul] at h; exact h
  have y11 : w0.cell? ⟨b, off + 4 + 1, none⟩ = some (.string o2.name) := by have h := x1'; simp only [Nat.one_mul] at h; exact h
  have y12 : w0.cell? ⟨b, off + 4 + 2, none⟩ = some (.int .i64 o2.num) := by have h := x2'; simp only [Nat.one_mul] at h; exact h
  have y13 : w0.cell? ⟨b, off + 4 + 3, none⟩ = some (.slice B2 o2.args.length bc2) := by have h := x3'; simp only [Nat.one_mul] at h; exact h
  have HX2 : Hid (OtAt w0 w0.heap.size (.agg #[.int .i64 o2.kind, .string o2.name, .int .i64 o2.num, .slice B2 o2.args.length bc2]) o2) := Lib.hid hx2
  have hpl := HP0.out.lt
  have hql := HQ0.out.lt
  have hnp : w.heap.size + 1 + 1 ≠ w.heap.size := by omega
  have hnq : w.heap.size + 1 + 1 ≠ w.heap.size + 1 := by omega
  have hbw : b < w.heap.size := by
    obtain ⟨b9, o9, _, _, h9, h9', _⟩ := (oargs_at (ts := [o1, o2]) HOW.out).elem 0 (by simp)
    simp only [Option.some.injEq, Addr.mk.injEq] at h9
    omega
  have hne : w.heap.size + 1 + 1 ≠ b := by omega
  have HC : Hid (Calls Tryz.prog 119 #[.agg #[.int .i64 s.kind, .slice L s.labels.length lc, .slice A s.args.length ac], .agg #[.int .i64 o1.kind, .string o1.name, .int .i64 o1.num, .slice B1 o1.args.length bc1], .agg #[.int .i64 o2.kind, .string o2.name, .int .i64 o2.num, .slice B2 o2.args.length bc2]] w0.drew (TypPost (fun b => N b ∨ b = w.heap.size + 1 + 1) (.iface 195 (.pointer (some ua))) r w0.drew)) := Lib.hid (typElse_any o1 o2 h1 h2 (N := fun b => N b ∨ b = w.heap.size + 1 + 1) (u := (.iface 195 (.pointer (some ua)))) (r := r) s _ _ _ _ HN0.out (HU0.out.below (Below.refl _ _).drew) (HJ0.out.below (Below.refl _ _).drew) (HV0.out.drew) (HX1.out.up (Below.refl _ _).drew) (HX2.out.up (Below.refl _ _).drew) hval f1 f2 z1 z2 HR.out)
  clear hval hse hnm hzp hzq z1 hoa hx1 x0 x1 x2 x3 h1 f1 z2 hx2 x0' x1' x2' x3' h2 f2
  go_upto_region 28 with fail
  have fa0 : w0.drew.cell? ⟨w.heap.size, 0, none⟩ = some (.int .i64 s.kind) := (HP0.out.cell 0)
  have fa1 : w0.drew.cell? ⟨w.heap.size, 1, none⟩ = some (.slice L s.labels.length lc) := (HP0.out.cell 1)
  have fa2 : w0.drew.cell? ⟨w.heap.size, 2, none⟩ = some (.slice A s.args.length ac) := (HP0.out.cell 2)
  have fa3 : w0.drew.cell? ⟨w.heap.size + 1, 3, none⟩ = some (.slice (some ⟨b, off, none⟩) 2 bc) := (HQ0.out.cell 3)
  have fa4 : w0.drew.cell? ⟨b, off, none⟩ = some (.int .i64 o1.kind) := (y00)
  have fa5 : w0.drew.cell? ⟨b, off + 1, none⟩ = some (.string o1.name) := (y01)
  have fa6 : w0.drew.cell? ⟨b, off + 2, none⟩ = some (.int .i64 o1.num) := (y02)
  have fa7 : w0.drew.cell? ⟨b, off + 3, none⟩ = some (.slice B1 o1.args.length bc1) := (y03)
  have fa8 : w0.drew.cell? ⟨b, off + 4, none⟩ = some (.int .i64 o2.kind) := (y10)
  have fa9 : w0.drew.cell? ⟨b, off + 4 + 1, none⟩ = some (.string o2.name) := (y11)
  have fa10 : w0.drew.cell? ⟨b, off + 4 + 2, none⟩ = some (.int .i64 o2.num) := (y12)
  have fa11 : w0.drew.cell? ⟨b, off + 4 + 3, none⟩ = some (.slice B2 o2.args.length bc2) := (y13)
  go_region_held3 (fun x' : World => x'.cell? ⟨w.heap.size, 0, none⟩ = some (.int .i64 s.kind) ∧ x'.cell? ⟨w.heap.size, 1, none⟩ = some (.slice L s.labels.length lc) ∧ x'.cell? ⟨w.heap.size, 2, none⟩ = some (.slice A s.args.length ac) ∧ x'.cell? ⟨w.heap.size + 1, 3, none⟩ = some (.slice (some ⟨b, off, none⟩) 2 bc) ∧ x'.cell? ⟨b, off, none⟩ = some (.int .i64 o1.kind) ∧ x'.cell? ⟨b, off + 1, none⟩ = some (.string o1.name) ∧ x'.cell? ⟨b, off + 2, none⟩ = some (.int .i64 o1.num) ∧ x'.cell? ⟨b, off + 3, none⟩ = some (.slice B1 o1.args.length bc1) ∧ x'.cell? ⟨b, off + 4, none⟩ = some (.int .i64 o2.kind) ∧ x'.cell? ⟨b, off + 4 + 1, none⟩ = some (.string o2.name) ∧ x'.cell? ⟨b, off + 4 + 2, none⟩ = some (.int .i64 o2.num) ∧ x'.cell? ⟨b, off + 4 + 3, none⟩ = some (.slice B2 o2.args.length bc2)) (first | with_reducible exact ⟨fa0, fa1, fa2, fa3, fa4, fa5, fa6, fa7, fa8, fa9, fa10, fa11⟩ | with_reducible exact ⟨fk0, fk1, fk2, fk3, fk4, fk5, fk6, fk7, fk8, fk9, fk10, fk11⟩ | with_reducible exact ⟨fl0, fl1, fl2, fl3, fl4, fl5, fl6, fl7, fl8, fl9, fl10, fl11⟩ | go_keep) (first | (go_simp; go_at_call 119; (with_reducible refine (HC.out).mono ?_); rintro e w9 ⟨L9, lc9, A9, ac9, t9, k9, x9, rfl, hv9, hb9', hs9, hor9⟩; have hb9 := (Below.refl w0.heap.size w0).drew.trans hb9'; have fk0 : w9.cell? ⟨w.heap.size, 0, none⟩ = some (.int .i64 s.kind) := (hb9.cell (p := ⟨w.heap.size, 0, none⟩) hpl).trans (HP0.out.cell 0); have fl0 : ((((w9.setCell ⟨w.heap.size + 1 + 1, 0, none⟩ (.int .i64 t9.kind)).setCell ⟨w.heap.size + 1 + 1, 1, none⟩ (.slice L9 t9.labels.length lc9)).setCell ⟨w.heap.size + 1 + 1, 2, none⟩ (.slice A9 t9.args.length ac9)).setCell ⟨w.heap.size + 1 + 1, 3, none⟩ (.int .i64 k9)).cell? ⟨w.heap.size, 0, none⟩ = some (.int .i64 s.kind) := typ_far _ _ _ _ _ fk0 (hnp); have fk1 : w9.cell? ⟨w.heap.size, 1, none⟩ = some (.slice L s.labels.length lc) := (hb9.cell (p := ⟨w.heap.size, 1, none⟩) hpl).trans (HP0.out.cell 1); have fl1 : ((((w9.setCell ⟨w.heap.size + 1 + 1, 0, none⟩ (.int .i64 t9.kind)).setCell ⟨w.heap.size + 1 + 1, 1, none⟩ (.slice L9 t9.labels.length lc9)).setCell ⟨w.heap.size + 1 + 1, 2, none⟩ (.slice A9 t9.args.length ac9)).setCell ⟨w.heap.size + 1 + 1, 3, none⟩ (.int .i64 k9)).cell? ⟨w.heap.size, 1, none⟩ = some (.slice L s.labels.length lc) := typ_far _ _ _ _ _ fk1 (hnp); have fk2 : w9.cell? ⟨w.heap.size, 2, none⟩ = some (.slice A s.args.length ac) := (hb9.cell (p := ⟨w.heap.size, 2, none⟩) hpl).trans (HP0.out.cell 2); have fl2 : ((((w9.setCell ⟨w.heap.size + 1 + 1, 0, none⟩ (.int .i64 t9.kind)).setCell ⟨w.heap.size + 1 + 1, 1, none⟩ (.slice L9 t9.labels.length lc9)).setCell ⟨w.heap.size + 1 + 1, 2, none⟩ (.slice A9 t9.args.length ac9)).setCell ⟨w.heap.size + 1 + 1, 3, none⟩ (.int .i64 k9)).cell? ⟨w.heap.size, 2, none⟩ = some (.slice A s.args.length ac) := typ_far _ _ _ _ _ fk2 (hnp); have fk3 : w9.cell? ⟨w.heap.size + 1, 3, none⟩ = some (.slice (some ⟨b, off, none⟩) 2 bc) := (hb9.cell (p := ⟨w.heap.size + 1, 3, none⟩) hql).trans (HQ0.out.cell 3); have fl3 : ((((w9.setCell ⟨w.heap.size + 1 + 1, 0, none⟩ (.int .i64 t9.kind)).setCell ⟨w.heap.size + 1 + 1, 1, none⟩ (.slice L9 t9.labels.length lc9)).setCell ⟨w.heap.size + 1 + 1, 2, none⟩ (.slice A9 t9.args.length ac9)).setCell ⟨w.heap.size + 1 + 1, 3, none⟩ (.int .i64 k9)).cell? ⟨w.heap.size + 1, 3, none⟩ = some (.slice (some ⟨b, off, none⟩) 2 bc) := typ_far _ _ _ _ _ fk3 (hnq); have fk4 : w9.cell? ⟨b, off, none⟩ = some (.int .i64 o1.kind) := (hb9.cell (p := ⟨b, off, none⟩) hbl).trans (y00); have fl4 : ((((w9.setCell ⟨w.heap.size + 1 + 1, 0, none⟩ (.int .i64 t9.kind)).setCell ⟨w.heap.size + 1 + 1, 1, none⟩ (.slice L9 t9.labels.length lc9)).setCell ⟨w.heap.size + 1 + 1, 2, none⟩ (.slice A9 t9.args.length ac9)).setCell ⟨w.heap.size + 1 + 1, 3, none⟩ (.int .i64 k9)).cell? ⟨b, off, none⟩ = some (.int .i64 o1.kind) := typ_far _ _ _ _ _ fk4 (hne); have fk5 : w9.cell? ⟨b, off + 1, none⟩ = some (.string o1.name) := (hb9.cell (p := ⟨b, off + 1, none⟩) hbl).trans (y01); have fl5 : ((((w9.setCell ⟨w.heap.size + 1 + 1, 0, none⟩ (.int .i64 t9.kind)).setCell ⟨w.heap.size + 1 + 1, 1, none⟩ (.slice L9 t9.labels.length lc9)).setCell ⟨w.heap.size + 1 + 1, 2, none⟩ (.slice A9 t9.args.length ac9)).setCell ⟨w.heap.size + 1 + 1, 3, none⟩ (.int .i64 k9)).cell? ⟨b, off + 1, none⟩ = some (.string o1.name) := typ_far _ _ _ _ _ fk5 (hne); have fk6 : w9.cell? ⟨b, off + 2, none⟩ = some (.int .i64 o1.num) := (hb9.cell (p := ⟨b, off + 2, none⟩) hbl).trans (y02); have fl6 : ((((w9.setCell ⟨w.heap.size + 1 + 1, 0, none⟩ (.int .i64 t9.kind)).setCell ⟨w.heap.size + 1 + 1, 1, none⟩ (.slice L9 t9.labels.length lc9)).setCell ⟨w.heap.size + 1 + 1, 2, none⟩ (.slice A9 t9.args.length ac9)).setCell ⟨w.heap.size + 1 + 1, 3, none⟩ (.int .i64 k9)).cell? ⟨b, off + 2, none⟩ = some (.int .i64 o1.num) := typ_far _ _ _ _ _ fk6 (hne); have fk7 : w9.cell? ⟨b, off + 3, none⟩ = some (.slice B1 o1.args.length bc1) := (hb9.cell (p := ⟨b, off + 3, none⟩) hbl).trans (y03); have fl7 : ((((w9.setCell ⟨w.heap.size + 1 + 1, 0, none⟩ (.int .i64 t9.kind)).setCell ⟨w.heap.size + 1 + 1, 1, none⟩ (.slice L9 t9.labels.length lc9)).setCell ⟨w.heap.size + 1 + 1, 2, none⟩ (.slice A9 t9.args.length ac9)).setCell ⟨w.heap.size + 1 + 1, 3, none⟩ (.int .i64 k9)).cell? ⟨b, off + 3, none⟩ = some (.slice B1 o1.args.length bc1) := typ_far _ _ _ _ _ fk7 (hne); have fk8 : w9.cell? ⟨b, off + 4, none⟩ = some (.int .i64 o2.kind) := (hb9.cell (p := ⟨b, off + 4, none⟩) hbl).trans (y10); have fl8 : ((((w9.setCell ⟨w.heap.size + 1 + 1, 0, none⟩ (.int .i64 t9.kind)).setCell ⟨w.heap.size + 1 + 1, 1, none⟩ (.slice L9 t9.labels.length lc9)).setCell ⟨w.heap.size + 1 + 1, 2, none⟩ (.slice A9 t9.args.length ac9)).setCell ⟨w.heap.size + 1 + 1, 3, none⟩ (.int .i64 k9)).cell? ⟨b, off + 4, none⟩ = some (.int .i64 o2.kind) := typ_far _ _ _ _ _ fk8 (hne); have fk9 : w9.cell? ⟨b, off + 4 + 1, none⟩ = some (.string o2.name) := (hb9.cell (p := ⟨b, off + 4 + 1, none⟩) hbl).trans (y11); have fl9 : ((((w9.setCell ⟨w.heap.size + 1 + 1, 0, none⟩ (.int .i64 t9.kind)).setCell ⟨w.heap.size + 1 + 1, 1, none⟩ (.slice L9 t9.labels.length lc9)).setCell ⟨w.heap.size + 1 + 1, 2, none⟩ (.slice A9 t9.args.length ac9)).setCell ⟨w.heap.size + 1 + 1, 3, none⟩ (.int .i64 k9)).cell? ⟨b, off + 4 + 1, none⟩ = some (.string o2.name) := typ_far _ _ _ _ _ fk9 (hne); have fk10 : w9.cell? ⟨b, off + 4 + 2, none⟩ = some (.int .i64 o2.num) := (hb9.cell (p := ⟨b, off + 4 + 2, none⟩) hbl).trans (y12); have fl10 : ((((w9.setCell ⟨w.heap.size + 1 + 1, 0, none⟩ (.int .i64 t9.kind)).setCell ⟨w.heap.size + 1 + 1, 1, none⟩ (.slice L9 t9.labels.length lc9)).setCell ⟨w.heap.size + 1 + 1, 2, none⟩ (.slice A9 t9.args.length ac9)).setCell ⟨w.heap.size + 1 + 1, 3, none⟩ (.int .i64 k9)).cell? ⟨b, off + 4 + 2, none⟩ = some (.int .i64 o2.num) := typ_far _ _ _ _ _ fk10 (hne); have fk11 : w9.cell? ⟨b, off + 4 + 3, none⟩ = some (.slice B2 o2.args.length bc2) := (hb9.cell (p := ⟨b, off + 4 + 3, none⟩) hbl).trans (y13); have fl11 : ((((w9.setCell ⟨w.heap.size + 1 + 1, 0, none⟩ (.int .i64 t9.kind)).setCell ⟨w.heap.size + 1 + 1, 1, none⟩ (.slice L9 t9.labels.length lc9)).setCell ⟨w.heap.size + 1 + 1, 2, none⟩ (.slice A9 t9.args.length ac9)).setCell ⟨w.heap.size + 1 + 1, 3, none⟩ (.int .i64 k9)).cell? ⟨b, off + 4 + 3, none⟩ = some (.slice B2 o2.args.length bc2) := typ_far _ _ _ _ _ fk11 (hne); have z9 := HZ0.out.below hb9 HZ0.out.lt; have d0 : w9.cell? ⟨w.heap.size + 1 + 1, 0, none⟩ = some (.int .i64 0) := z9.cell 0; have df0 : w9.frozen? ⟨w.heap.size + 1 + 1, 0, none⟩ = false := z9.free 0; have d1 : w9.cell? ⟨w.heap.size + 1 + 1, 1, none⟩ = some (.slice none 0 0) := z9.cell 1; have df1 : w9.frozen? ⟨w.heap.size + 1 + 1, 1, none⟩ = false := z9.free 1; have d2 : w9.cell? ⟨w.heap.size + 1 + 1, 2, none⟩ = some (.slice none 0 0) := z9.cell 2; have df2 : w9.frozen? ⟨w.heap.size + 1 + 1, 2, none⟩ = false := z9.free 2; have d3 : w9.cell? ⟨w.heap.size + 1 + 1, 3, none⟩ = some (.int .i64 0) := z9.cell 3; have df3 : w9.frozen? ⟨w.heap.size + 1 + 1, 3, none⟩ = false := z9.free 3; have HF := Lib.hid (fun a b c d => typ_fin (r := r) (show w.heap.size ≤ w.heap.size + 1 + 1 by omega) (HB0.out.trans (hb9.mono HB0.out.size)) hv9 hs9 hor9 a b c d); clear hv9 hs9 hor9; clear hb9' hb9 z9))
  all_goals go_wp2
  all_goals exact bodyPost_ret (v := .tuple #[.agg #[.int .i64 t9.kind, .slice L9 t9.labels.length lc9, .slice A9 t9.args.length ac9, .int .i64 k9], x9]) (by simp [results, Tryz.results98, go_sem, d0, d1, d2, d3]) rfl (HF.out _ _ _ _)

set_option maxHeartbeats 4000000 in
theorem typKind_none (k0 : Int) (i1 : (k0 == 1) = false) (i2 : (k0 == 2) = false) (i3 : (k0 == 3) = false) (i4 : (k0 == 4) = false) (i5 : (k0 == 5) = false) (i6 : (k0 == 6) = false) (i7 : (k0 == 7) = false) (i8 : (k0 == 8) = false) (i9 : (k0 == 9) = false) (i10 : (k0 == 10) = false) (i11 : (k0 == 11) = false) (i12 : (k0 == 12) = false) (i13 : (k0 == 13) = false) (n0 : Int) (nm : ByteArray) (ts : List Ot) (B : Option Addr) (bc : Nat) {N : Nat → Prop} {u : Value} {r : Option (Ty × Int)} (s : Ty) (sv : Value) (w : World) (hN : ∀ b, N b → b < w.heap.size) (hU : UnfitAt w u) (hJ : JoinsAt w) (hv : OwnA N w sv s) (ho : OtAt w w.heap.size (.agg #[.int .i64 k0, .string nm, .int .i64 n0, .slice B ts.length bc]) (.mk k0 n0 nm ts)) (hval : validB s = true) (hf : formOt (.mk k0 n0 nm ts) = true) (hz : szOt (.mk k0 n0 nm ts) ≤ 1048576) (hr : r = none) :
    Calls Tryz.prog 98 #[sv, .agg #[.int .i64 k0, .string nm, .int .i64 n0, .slice B ts.length bc]] w (TypPost N u r w) := by
  have hnm := form_name hf
  have hse := szTy_valid hval
  obtain ⟨L, lc, A, ac, rfl⟩ := hv.open
  obtain ⟨hb0, p0, q0, zz0, hs0⟩ := boxes3 w 27 30 60 #[.int .i64 s.kind, .slice L s.labels.length lc, .slice A s.args.length ac] #[.int .i64 k0, .string nm, .int .i64 n0, .slice B ts.length bc] #[.int .i64 0, .slice none 0 0, .slice none 0 0, .int .i64 0]
  have HV0 := Lib.hid ((hv.late (w.heap.size + 1 + 1) (by omega)).up hb0)
  have HO0 := Lib.hid (ho.up hb0)
  have HN0 := Lib.hid (show ∀ b, (N b ∨ b = w.heap.size + 1 + 1) → b < (((w.alloc (.cells #[.int .i64 s.kind, .slice L s.labels.length lc, .slice A s.args.length ac] 27)).alloc (.cells #[.int .i64 k0, .string nm, .int .i64 n0, .slice B ts.length bc] 30)).alloc (.cells #[.int .i64 0, .slice none 0 0, .slice none 0 0, .int .i64 0] 60)).heap.size from fun b hb => hb.elim (fun hb => Nat.lt_of_lt_of_le (hN b hb) hb0.size) (fun e => e ▸ zz0.lt))
  have HU0 := Lib.hid (hU.below hb0)
  have HJ0 := Lib.hid (hJ.below hb0)
  obtain ⟨hug, huc, ua, rfl⟩ := hU
  have HR := Lib.hid hr
  have HB0 := Lib.hid hb0
  have HZ0 := Lib.hid zz0
  have HP0 := Lib.hid p0
  have HQ0 := Lib.hid q0
  have HZZ := Lib.hid hz
  have HFO := Lib.hid hf
  have HOW := Lib.hid ho
  clear hv hN hr hJ hug huc ho hb0 zz0 p0 q0 hs0 hz hf
  go_enter Tryz.func98, Tryz.ntmps98
  go_upto_region 1 with fail
  generalize ((w.alloc (.cells #[.int .i64 s.kind, .slice L s.labels.length lc, .slice A s.args.length ac] 27)).alloc (.cells #[.int .i64 k0, .string nm, .int .i64 n0, .slice B ts.length bc] 30)).alloc (.cells #[.int .i64 0, .slice none 0 0, .slice none 0 0, .int .i64 0] 60) = w0 at *
  have sp0 : w0.cell? ⟨w.heap.size, 0, none⟩ = some (.int .i64 s.kind) := HP0.out.cell 0
  have sp1 : w0.cell? ⟨w.heap.size, 1, none⟩ = some (.slice L s.labels.length lc) := HP0.out.cell 1
  have sp2 : w0.cell? ⟨w.heap.size, 2, none⟩ = some (.slice A s.args.length ac) := HP0.out.cell 2
  have qo0 : w0.cell? ⟨w.heap.size + 1, 0, none⟩ = some (.int .i64 k0) := HQ0.out.cell 0
  have qo1 : w0.cell? ⟨w.heap.size + 1, 1, none⟩ = some (.string nm) := HQ0.out.cell 1
  have qo2 : w0.cell? ⟨w.heap.size + 1, 2, none⟩ = some (.int .i64 n0) := HQ0.out.cell 2
  have qo3 : w0.cell? ⟨w.heap.size + 1, 3, none⟩ = some (.slice B ts.length bc) := HQ0.out.cell 3
  have HRN := HR
  clear hval hse hnm sp0 sp1 sp2
  have d0 : w0.cell? ⟨w.heap.size + 1 + 1, 0, none⟩ = some (.int .i64 0) := HZ0.out.cell 0
  have df0 : w0.frozen? ⟨w.heap.size + 1 + 1, 0, none⟩ = false := HZ0.out.free 0
  have d1 : w0.cell? ⟨w.heap.size + 1 + 1, 1, none⟩ = some (.slice none 0 0) := HZ0.out.cell 1
  have df1 : w0.frozen? ⟨w.heap.size + 1 + 1, 1, none⟩ = false := HZ0.out.free 1
  have d2 : w0.cell? ⟨w.heap.size + 1 + 1, 2, none⟩ = some (.slice none 0 0) := HZ0.out.cell 2
  have df2 : w0.frozen? ⟨w.heap.size + 1 + 1, 2, none⟩ = false := HZ0.out.free 2
  have d3 : w0.cell? ⟨w.heap.size + 1 + 1, 3, none⟩ = some (.int .i64 0) := HZ0.out.cell 3
  have df3 : w0.frozen? ⟨w.heap.size + 1 + 1, 3, none⟩ = false := HZ0.out.free 3
  have e0 : w0.drew.cell? ⟨w.heap.size + 1 + 1, 0, none⟩ = some (.int .i64 0) := d0
  have ef0 : w0.drew.frozen? ⟨w.heap.size + 1 + 1, 0, none⟩ = false := df0
  have e1 : w0.drew.cell? ⟨w.heap.size + 1 + 1, 1, none⟩ = some (.slice none 0 0) := d1
  have ef1 : w0.drew.frozen? ⟨w.heap.size + 1 + 1, 1, none⟩ = false := df1
  have e2 : w0.drew.cell? ⟨w.heap.size + 1 + 1, 2, none⟩ = some (.slice none 0 0) := d2
  have ef2 : w0.drew.frozen? ⟨w.heap.size + 1 + 1, 2, none⟩ = false := df2
  have e3 : w0.drew.cell? ⟨w.heap.size + 1 + 1, 3, none⟩ = some (.int .i64 0) := d3
  have ef3 : w0.drew.frozen? ⟨w.heap.size + 1 + 1, 3, none⟩ = false := df3
  have hu0 : w0.cell? ⟨0, 0, none⟩ = some (.iface 195 (.pointer (some ua))) := HU0.out.2.1
  have hud : w0.drew.cell? ⟨0, 0, none⟩ = some (.iface 195 (.pointer (some ua))) := hu0
  have HF := Lib.hid (typ_none (N := N) (u := (.iface 195 (.pointer (some ua)))) HB0.out HRN.out)
  have HG := Lib.hid (fun a b c d => typ_drew ((typ_none4 (N := N) (u := (.iface 195 (.pointer (some ua)))) (show w.heap.size ≤ w.heap.size + 1 + 1 by omega) HB0.out HRN.out a b c d)))
  go_wp2
  go_region
  go_wp2
  first | exact bodyPost_ret (v := .tuple #[.agg #[.int .i64 0, .slice none 0 0, .slice none 0 0, .int .i64 0], .iface 195 (.pointer (some ua))]) (by simp [results, Tryz.results98, go_sem, d0, d1, d2, d3, e0, e1, e2, e3]) rfl HF.out | exact bodyPost_ret (v := .tuple #[.agg #[.int .i64 0, .slice none 0 0, .slice none 0 0, .int .i64 0], .iface 195 (.pointer (some ua))]) (by simp [results, Tryz.results98, go_sem, d0, d1, d2, d3, e0, e1, e2, e3]) rfl (HG.out _ _ _ _)

end Go.Proofs.YthdfidhijmcbdaaGreatDoor
end

section
namespace Go.Proofs.YthdfidhijmcbdaaGreatDoor
set_option maxRecDepth 100000
set_option linter.unusedSimpArgs false
open Go.RowKit
attribute [local go_sem ↓] Go.wp_at_zero Go.wp_at_succ

theorem nodeTyO_leaf {k : Int} {nm : ByteArray} {fs : List (Ty → Option (Ty × Int))} {s : Ty} (h1 : k ≠ 11) (h2 : k ≠ 12) (h3 : k ≠ 13) : nodeTyO k nm fs s = leafO k nm s := by
  simp only [nodeTyO, if_neg h1, if_neg h2, if_neg h3]

theorem typKind_any (k0 n0 : Int) (nm : ByteArray) (ts : List Ot) (hall : ∀ i, (h : i < ts.length) → TypOne ts[i]) {N : Nat → Prop} {u : Value} {r : Option (Ty × Int)} (s : Ty) (sv ov : Value) (w : World) (hN : ∀ b, N b → b < w.heap.size) (hU : UnfitAt w u) (hJ : JoinsAt w) (hv : OwnA N w sv s) (ho : OtAt w w.heap.size ov (.mk k0 n0 nm ts)) (hval : validB s = true) (hf : formOt (.mk k0 n0 nm ts) = true) (hz : szOt (.mk k0 n0 nm ts) ≤ 1048576) (hr : r = nodeTyO k0 nm (typeOs ts) s) :
    Calls Tryz.prog 98 #[sv, ov] w (TypPost N u r w) := by
  obtain ⟨B, bc, rfl, _⟩ := ho.open
  simp only [Ot.kind, Ot.num, Ot.name, Ot.args] at ho ⊢
  by_cases e1 : k0 = 1
  · subst e1
    exact typKind_id n0 nm ts B bc s sv w hN hU hJ hv ho hval hf hz (hr.trans (nodeTyO_leaf (by decide) (by decide) (by decide)))
  by_cases e2 : k0 = 2
  · subst e2
    exact typKind_field n0 nm ts B bc s sv w hN hU hJ hv ho hval hf hz (hr.trans (nodeTyO_leaf (by decide) (by decide) (by decide)))
  by_cases e3 : k0 = 3
  · subst e3
    exact typKind_case n0 nm ts B bc s sv w hN hU hJ hv ho hval hf hz (hr.trans (nodeTyO_leaf (by decide) (by decide) (by decide)))
  by_cases e4 : k0 = 4
  · subst e4
    exact typKind_each n0 nm ts B bc s sv w hN hU hJ hv ho hval hf hz (hr.trans (nodeTyO_leaf (by decide) (by decide) (by decide)))
  by_cases e5 : k0 = 5
  · subst e5
    exact typKind_all n0 nm ts B bc s sv w hN hU hJ hv ho hval hf hz (hr.trans (nodeTyO_leaf (by decide) (by decide) (by decide)))
  by_cases e6 : k0 = 6
  · subst e6
    exact typKind_at n0 nm ts B bc s sv w hN hU hJ hv ho hval hf hz (hr.trans (nodeTyO_leaf (by decide) (by decide) (by decide)))
  by_cases e7 : k0 = 7
  · subst e7
    exact typKind_add n0 nm ts B bc s sv w hN hU hJ hv ho hval hf hz (hr.trans (nodeTyO_leaf (by decide) (by decide) (by decide)))
  by_cases e8 : k0 = 8
  · subst e8
    exact typKind_not n0 nm ts B bc s sv w hN hU hJ hv ho hval hf hz (hr.trans (nodeTyO_leaf (by decide) (by decide) (by decide)))
  by_cases e9 : k0 = 9
  · subst e9
    exact typKind_rev n0 nm ts B bc s sv w hN hU hJ hv ho hval hf hz (hr.trans (nodeTyO_leaf (by decide) (by decide) (by decide)))
  by_cases e10 : k0 = 10
  · subst e10
    exact typKind_wrap n0 nm ts B bc s sv w hN hU hJ hv ho hval hf hz (hr.trans (nodeTyO_leaf (by decide) (by decide) (by decide)))
  by_cases e11 : k0 = 11
  · subst e11
    obtain ⟨a, rfl, fa⟩ := form_one hf rfl
    exact typKind_map a (hall 0 (by simp)) fa n0 nm B bc s sv w hN hU hJ hv ho hval hf hz (hr.trans (by simp [nodeTyO, typeOs]))
  by_cases e12 : k0 = 12
  · subst e12
    obtain ⟨a, b, rfl, fa, fb⟩ := form_two hf (.inl rfl)
    exact typKind_then a b (hall 0 (by simp)) (hall 1 (by simp)) fa fb n0 nm B bc s sv w hN hU hJ hv ho hval hf hz (hr.trans (by simp [nodeTyO, typeOs]))
  by_cases e13 : k0 = 13
  · subst e13
    obtain ⟨a, b, rfl, fa, fb⟩ := form_two hf (.inr rfl)
    exact typKind_else a b (hall 0 (by simp)) (hall 1 (by simp)) fa fb n0 nm B bc s sv w hN hU hJ hv ho hval hf hz (hr.trans (by simp [nodeTyO, typeOs]))
  exact typKind_none k0 (by simpa using e1) (by simpa using e2) (by simpa using e3) (by simpa using e4) (by simpa using e5) (by simpa using e6) (by simpa using e7) (by simpa using e8) (by simpa using e9) (by simpa using e10) (by simpa using e11) (by simpa using e12) (by simpa using e13) n0 nm ts B bc s sv w hN hU hJ hv ho hval hf hz (hr.trans ((nodeTyO_leaf e11 e12 e13).trans (by simp only [leafO, if_neg e1, if_neg e2, if_neg e3, if_neg e4, if_neg e5, if_neg e6, if_neg e7, if_neg e8, if_neg e9, if_neg e10])))

set_option maxHeartbeats 4000000 in
theorem typOne_of (k0 n0 : Int) (nm : ByteArray) (ts : List Ot) (hall : ∀ i, (h : i < ts.length) → TypOne ts[i]) : TypOne (.mk k0 n0 nm ts) := by
  intro N u r s sv ov w hN hU hJ hv ho hval hf hz hr
  have hr' : r = goodO (nodeTyO k0 nm (typeOs ts) s) := by rw [hr, typeO]
  obtain ⟨o, ho_⟩ : ∃ o, o = Ot.mk k0 n0 nm ts := ⟨_, rfl⟩
  have hKK := fun (W : World) (N' : Nat → Prop) (r' : Option (Ty × Int)) (sv' ov' : Value) (h1 : ∀ b, N' b → b < W.heap.size) (h2 : UnfitAt W u) (h3 : JoinsAt W) (h4 : OwnA N' W sv' s) (h5 : OtAt W W.heap.size ov' o) (h6 : r' = nodeTyO k0 nm (typeOs ts) s) => typKind_any k0 n0 nm ts hall (N := N') (u := u) (r := r') s sv' ov' W h1 h2 h3 h4 (ho_ ▸ h5) hval hf hz h6
  rw [← ho_] at ho
  obtain ⟨L, lc, A, ac, rfl⟩ := hv.open
  obtain ⟨B, bc, rfl, _⟩ := ho.open
  obtain ⟨hb0, p0, q0, zz0, hs0⟩ := boxes3 w 27 30 60 #[.int .i64 s.kind, .slice L s.labels.length lc, .slice A s.args.length ac] #[.int .i64 o.kind, .string o.name, .int .i64 o.num, .slice B o.args.length bc] #[.int .i64 0, .slice none 0 0, .slice none 0 0, .int .i64 0]
  have hv0 := (hv.late (w.heap.size + 1 + 1) (by omega)).up hb0
  have HU0 := Lib.hid (hU.below hb0)
  have hN0 : ∀ b, (N b ∨ b = w.heap.size + 1 + 1) → b < (((w.alloc (.cells #[.int .i64 s.kind, .slice L s.labels.length lc, .slice A s.args.length ac] 27)).alloc (.cells #[.int .i64 o.kind, .string o.name, .int .i64 o.num, .slice B o.args.length bc] 30)).alloc (.cells #[.int .i64 0, .slice none 0 0, .slice none 0 0, .int .i64 0] 60)).heap.size := fun b hb => hb.elim (fun hb => Nat.lt_of_lt_of_le (hN b hb) hb0.size) (fun e => e ▸ zz0.lt)
  obtain ⟨r1, hr1⟩ : ∃ x, x = nodeTyO k0 nm (typeOs ts) s := ⟨_, rfl⟩
  have HC := Lib.hid (hKK _ (fun b => N b ∨ b = w.heap.size + 1 + 1) r1 _ _ hN0 HU0.out (hJ.below hb0) hv0 (ho.up hb0) hr1)
  have HR := Lib.hid (hr'.trans (congrArg goodO hr1.symm))
  have HB0 := Lib.hid hb0
  have HZ0 := Lib.hid zz0
  clear hr hr' hr1 ho_ hKK hv hv0 ho hN hJ hb0 zz0 p0 q0 hs0 hN0 hf hz hval hall
  obtain ⟨hug, huc, ua, rfl⟩ := hU
  clear hug huc
  go_enter Tryz.func68, Tryz.ntmps68
  go_wp2_with fail
  generalize ((w.alloc (.cells #[.int .i64 s.kind, .slice L s.labels.length lc, .slice A s.args.length ac] 27)).alloc (.cells #[.int .i64 o.kind, .string o.name, .int .i64 o.num, .slice B o.args.length bc] 30)).alloc (.cells #[.int .i64 0, .slice none 0 0, .slice none 0 0, .int .i64 0] 60) = w0 at *
  refine HC.out.mono ?_
  rintro e w1 ⟨L1, lc1, A1, ac1, t1, k1, x1, rfl, hv1, hb1, hs1, hor1⟩
  have hx1 := (Below.refl w1.heap.size w1).alloc (Nat.le_refl _) (.cells #[.int .i64 t1.kind, .slice L1 t1.labels.length lc1, .slice A1 t1.args.length ac1, .int .i64 k1] 60)
  have hd1 := hb1.trans (hx1.mono hb1.size)
  have HN1 := Lib.hid (show Whole1 (w1.alloc (.cells #[.int .i64 t1.kind, .slice L1 t1.labels.length lc1, .slice A1 t1.args.length ac1, .int .i64 k1] 60)) w1.heap.size 60 #[.int .i64 t1.kind, .slice L1 t1.labels.length lc1, .slice A1 t1.args.length ac1, .int .i64 k1] from Whole1.new _ _ _)
  have HV1 := Lib.hid (hv1.up hx1)
  have HZ1 := Lib.hid (HZ0.out.below hd1 HZ0.out.lt)
  have HB1 := Lib.hid (HB0.out.trans (hd1.mono HB0.out.size))
  have HU1 := Lib.hid (HU0.out.below hd1)
  have HS1 := Lib.hid hs1
  clear hx1 hd1 hv1 hb1 hs1 HC
  go_upto_region 2 with fail
  generalize (w1.alloc (.cells #[.int .i64 t1.kind, .slice L1 t1.labels.length lc1, .slice A1 t1.args.length ac1, .int .i64 k1] 60)) = W1 at *
  rcases hor1 with ⟨rn, rfl⟩ | ⟨rs, rfl⟩
  · have HRN := Lib.hid (HR.out.trans (by rw [rn, goodO]))
    have d0 : W1.cell? ⟨w.heap.size + 1 + 1, 0, none⟩ = some (.int .i64 0) := HZ1.out.cell 0
    have df0 : W1.frozen? ⟨w.heap.size + 1 + 1, 0, none⟩ = false := HZ1.out.free 0
    have d1 : W1.cell? ⟨w.heap.size + 1 + 1, 1, none⟩ = some (.slice none 0 0) := HZ1.out.cell 1
    have df1 : W1.frozen? ⟨w.heap.size + 1 + 1, 1, none⟩ = false := HZ1.out.free 1
    have d2 : W1.cell? ⟨w.heap.size + 1 + 1, 2, none⟩ = some (.slice none 0 0) := HZ1.out.cell 2
    have df2 : W1.frozen? ⟨w.heap.size + 1 + 1, 2, none⟩ = false := HZ1.out.free 2
    have d3 : W1.cell? ⟨w.heap.size + 1 + 1, 3, none⟩ = some (.int .i64 0) := HZ1.out.cell 3
    have df3 : W1.frozen? ⟨w.heap.size + 1 + 1, 3, none⟩ = false := HZ1.out.free 3
    have e0 : W1.drew.cell? ⟨w.heap.size + 1 + 1, 0, none⟩ = some (.int .i64 0) := d0
    have ef0 : W1.drew.frozen? ⟨w.heap.size + 1 + 1, 0, none⟩ = false := df0
    have e1 : W1.drew.cell? ⟨w.heap.size + 1 + 1, 1, none⟩ = some (.slice none 0 0) := d1
    have ef1 : W1.drew.frozen? ⟨w.heap.size + 1 + 1, 1, none⟩ = false := df1
    have e2 : W1.drew.cell? ⟨w.heap.size + 1 + 1, 2, none⟩ = some (.slice none 0 0) := d2
    have ef2 : W1.drew.frozen? ⟨w.heap.size + 1 + 1, 2, none⟩ = false := df2
    have e3 : W1.drew.cell? ⟨w.heap.size + 1 + 1, 3, none⟩ = some (.int .i64 0) := d3
    have ef3 : W1.drew.frozen? ⟨w.heap.size + 1 + 1, 3, none⟩ = false := df3
    have hu0 : W1.cell? ⟨0, 0, none⟩ = some (.iface 195 (.pointer (some ua))) := HU1.out.2.1
    have hud : W1.drew.cell? ⟨0, 0, none⟩ = some (.iface 195 (.pointer (some ua))) := hu0
    have HF := Lib.hid (typ_none (N := N) (u := (.iface 195 (.pointer (some ua)))) HB1.out HRN.out)
    have HG := Lib.hid (fun a b c d => typ_drew ((typ_none4 (N := N) (u := (.iface 195 (.pointer (some ua)))) (show w.heap.size ≤ w.heap.size + 1 + 1 by omega) HB1.out HRN.out a b c d)))
    clear rn
    go_wp2
    go_region
    go_wp2
    first | exact bodyPost_ret (v := .tuple #[.agg #[.int .i64 0, .slice none 0 0, .slice none 0 0, .int .i64 0], .iface 195 (.pointer (some ua))]) (by simp [results, Tryz.results68, go_sem, d0, d1, d2, d3, e0, e1, e2, e3]) rfl HF.out | exact bodyPost_ret (v := .tuple #[.agg #[.int .i64 0, .slice none 0 0, .slice none 0 0, .int .i64 0], .iface 195 (.pointer (some ua))]) (by simp [results, Tryz.results68, go_sem, d0, d1, d2, d3, e0, e1, e2, e3]) rfl (HG.out _ _ _ _)
  · have HRS := Lib.hid rs
    have HVA := Lib.hid (implValid_any t1 _ W1 HV1.out.own (by have := HS1.out; omega))
    have m0 : W1.cell? ⟨w1.heap.size, 0, none⟩ = some (.int .i64 t1.kind) := HN1.out.cell 0
    have m1 : W1.cell? ⟨w1.heap.size, 1, none⟩ = some (.slice L1 t1.labels.length lc1) := HN1.out.cell 1
    have m2 : W1.cell? ⟨w1.heap.size, 2, none⟩ = some (.slice A1 t1.args.length ac1) := HN1.out.cell 2
    have m3 : W1.cell? ⟨w1.heap.size, 3, none⟩ = some (.int .i64 k1) := HN1.out.cell 3
    cases hvb : validB t1
    · rw [hvb] at HVA
      have HRN := Lib.hid (HR.out.trans (show goodO r1 = none by rw [HRS.out]; simp [goodO, hvb]))
      clear hvb
      go_wp2_with fail
      refine HVA.out.mono ?_
      rintro e w2 ⟨rfl, hb2⟩
      have HU2 := Lib.hid (HU1.out.below hb2)
      have HB2 := Lib.hid (HB1.out.trans (hb2.mono HB1.out.size))
      have HZ2 := Lib.hid (HZ1.out.below hb2 HZ1.out.lt)
      clear hb2 m0 m1 m2 m3 rs
      have d0 : w2.cell? ⟨w.heap.size + 1 + 1, 0, none⟩ = some (.int .i64 0) := HZ2.out.cell 0
      have df0 : w2.frozen? ⟨w.heap.size + 1 + 1, 0, none⟩ = false := HZ2.out.free 0
      have d1 : w2.cell? ⟨w.heap.size + 1 + 1, 1, none⟩ = some (.slice none 0 0) := HZ2.out.cell 1
      have df1 : w2.frozen? ⟨w.heap.size + 1 + 1, 1, none⟩ = false := HZ2.out.free 1
      have d2 : w2.cell? ⟨w.heap.size + 1 + 1, 2, none⟩ = some (.slice none 0 0) := HZ2.out.cell 2
      have df2 : w2.frozen? ⟨w.heap.size + 1 + 1, 2, none⟩ = false := HZ2.out.free 2
      have d3 : w2.cell? ⟨w.heap.size + 1 + 1, 3, none⟩ = some (.int .i64 0) := HZ2.out.cell 3
      have df3 : w2.frozen? ⟨w.heap.size + 1 + 1, 3, none⟩ = false := HZ2.out.free 3
      have e0 : w2.drew.cell? ⟨w.heap.size + 1 + 1, 0, none⟩ = some (.int .i64 0) := d0
      have ef0 : w2.drew.frozen? ⟨w.heap.size + 1 + 1, 0, none⟩ = false := df0
      have e1 : w2.drew.cell? ⟨w.heap.size + 1 + 1, 1, none⟩ = some (.slice none 0 0) := d1
      have ef1 : w2.drew.frozen? ⟨w.heap.size + 1 + 1, 1, none⟩ = false := df1
      have e2 : w2.drew.cell? ⟨w.heap.size + 1 + 1, 2, none⟩ = some (.slice none 0 0) := d2
      have ef2 : w2.drew.frozen? ⟨w.heap.size + 1 + 1, 2, none⟩ = false := df2
      have e3 : w2.drew.cell? ⟨w.heap.size + 1 + 1, 3, none⟩ = some (.int .i64 0) := d3
      have ef3 : w2.drew.frozen? ⟨w.heap.size + 1 + 1, 3, none⟩ = false := df3
      have hu0 : w2.cell? ⟨0, 0, none⟩ = some (.iface 195 (.pointer (some ua))) := HU2.out.2.1
      have hud : w2.drew.cell? ⟨0, 0, none⟩ = some (.iface 195 (.pointer (some ua))) := hu0
      have HF := Lib.hid (typ_none (N := N) (u := (.iface 195 (.pointer (some ua)))) HB2.out HRN.out)
      have HG := Lib.hid (fun a b c d => typ_drew ((typ_none4 (N := N) (u := (.iface 195 (.pointer (some ua)))) (show w.heap.size ≤ w.heap.size + 1 + 1 by omega) HB2.out HRN.out a b c d)))
      go_wp2
      go_region
      go_wp2
      first | exact bodyPost_ret (v := .tuple #[.agg #[.int .i64 0, .slice none 0 0, .slice none 0 0, .int .i64 0], .iface 195 (.pointer (some ua))]) (by simp [results, Tryz.results68, go_sem, d0, d1, d2, d3, e0, e1, e2, e3]) rfl HF.out | exact bodyPost_ret (v := .tuple #[.agg #[.int .i64 0, .slice none 0 0, .slice none 0 0, .int .i64 0], .iface 195 (.pointer (some ua))]) (by simp [results, Tryz.results68, go_sem, d0, d1, d2, d3, e0, e1, e2, e3]) rfl (HG.out _ _ _ _)
    · rw [hvb] at HVA
      have HRY := Lib.hid (HR.out.trans (show goodO r1 = some (t1, k1) by rw [HRS.out]; simp [goodO, hvb]))
      clear hvb
      go_wp2_with fail
      refine HVA.out.mono ?_
      rintro e w2 ⟨rfl, hb2⟩
      have HB2 := Lib.hid (HB1.out.trans (hb2.mono HB1.out.size))
      have z2 := HZ1.out.below hb2 HZ1.out.lt
      have n2 := HN1.out.below hb2 HN1.out.lt
      have HF := Lib.hid (fun a b c d => typ_fin (r := r) (u := (.iface 195 (.pointer (some ua)))) (show w.heap.size ≤ w.heap.size + 1 + 1 by omega) HB2.out (HV1.out.up hb2) HS1.out (.inr ⟨HRY.out, rfl⟩) a b c d)
      clear m0 m1 m2 m3
      have d0 : w2.cell? ⟨w.heap.size + 1 + 1, 0, none⟩ = some (.int .i64 0) := z2.cell 0
      have df0 : w2.frozen? ⟨w.heap.size + 1 + 1, 0, none⟩ = false := z2.free 0
      have d1 : w2.cell? ⟨w.heap.size + 1 + 1, 1, none⟩ = some (.slice none 0 0) := z2.cell 1
      have df1 : w2.frozen? ⟨w.heap.size + 1 + 1, 1, none⟩ = false := z2.free 1
      have d2 : w2.cell? ⟨w.heap.size + 1 + 1, 2, none⟩ = some (.slice none 0 0) := z2.cell 2
      have df2 : w2.frozen? ⟨w.heap.size + 1 + 1, 2, none⟩ = false := z2.free 2
      have d3 : w2.cell? ⟨w.heap.size + 1 + 1, 3, none⟩ = some (.int .i64 0) := z2.cell 3
      have df3 : w2.frozen? ⟨w.heap.size + 1 + 1, 3, none⟩ = false := z2.free 3
      have m0 : w2.cell? ⟨w1.heap.size, 0, none⟩ = some (.int .i64 t1.kind) := n2.cell 0
      have m1 : w2.cell? ⟨w1.heap.size, 1, none⟩ = some (.slice L1 t1.labels.length lc1) := n2.cell 1
      have m2 : w2.cell? ⟨w1.heap.size, 2, none⟩ = some (.slice A1 t1.args.length ac1) := n2.cell 2
      have m3 : w2.cell? ⟨w1.heap.size, 3, none⟩ = some (.int .i64 k1) := n2.cell 3
      clear hb2 z2 n2 rs
      go_wp2
      exact bodyPost_ret (v := .tuple #[.agg #[.int .i64 t1.kind, .slice L1 t1.labels.length lc1, .slice A1 t1.args.length ac1, .int .i64 k1], .nilIface]) (by simp [results, Tryz.results68, go_sem, d0, d1, d2, d3]) rfl (HF.out _ _ _ _)

theorem typOne_any (o : Ot) : TypOne o := by
  induction o using Ot.ind with
  | h k n nm ts ih => exact typOne_of k n nm ts ih

end Go.Proofs.YthdfidhijmcbdaaGreatDoor
end

section
namespace Go.Proofs.YthdfidhijmcbdaaGreatDoor
open Go.RowKit Go.Extern.Stop Go.Stop Go.Extern

theorem errIs_nil (a : Addr) (w : World) :
    Calls Tryz.prog 34 #[.nilIface, .iface 195 (.pointer (some a))] w fun e w' => e = .returned (.bool false) ∧ w' = w := by
  have hn := run_eql_iface_nil_left (P := Tryz.prog) w 195 (.pointer (some a)) Tryz.underlying62
  go_enter Tryz.func34, Tryz.ntmps34
  go_wp2
  go_ret
  exact ⟨rfl, rfl⟩

theorem errTypeOf (v : Value) (w : World) : (Extern.ReflectliteType.typeOf #[.iface 195 v]).run Tryz.prog w = .ok (.iface 116 (.agg #[.pointer (some ⟨2, 195, none⟩)])) w := by kernel_rfl
theorem errComparable (w : World) : ((Extern.ReflectliteType.method fun t => do Go.Extern.Rtype.noPackHeld "Comparable" t; (fun a => Value.bool a.comparable) <$> typeInfo t) #[.agg #[.pointer (some ⟨2, 195, none⟩)]]).run Tryz.prog w = .ok (.bool true) w := by kernel_rfl
theorem errMethodComparable (v : Value) (w : World) : (Go.method 332 116 v "Comparable").run Tryz.prog w = .ok (170, v) w := by kernel_rfl
theorem errComp : (Tryz.prog.info? 195).map (·.comparable) = some true := by kernel_rfl
theorem errSize : (Tryz.prog.info? 220).map (·.size) = some 1 := by kernel_rfl

theorem errIs_same (a : Addr) (w : World) :
    Calls Tryz.prog 34 #[.iface 195 (.pointer (some a)), .iface 195 (.pointer (some a))] w fun e w' => e = .returned (.bool true) ∧ w' = w := by
  obtain ⟨i, hi, hcmp⟩ := Option.map_eq_some_iff.1 errComp
  obtain ⟨j, hj, hjs⟩ := Option.map_eq_some_iff.1 errSize
  have h8 := @run_callFunc_extern Tryz.prog 69 _ Extern.ReflectliteType.typeOf Tryz.func69 (by kernel_rfl) (by kernel_rfl) (by kernel_rfl) (by kernel_rfl)
  have h32 := @run_callFunc_extern Tryz.prog 170 _ (Extern.ReflectliteType.method fun t => do Go.Extern.Rtype.noPackHeld "Comparable" t; pure (.bool (← typeInfo t).comparable)) Tryz.func170 (by kernel_rfl) (by kernel_rfl) (by kernel_rfl) (by kernel_rfl)
  have tT := errTypeOf
  have cT := errComparable
  have mR := errMethodComparable
  have heq := run_eql_iface_ptr_same (P := Tryz.prog) w a Tryz.underlying62 Tryz.underlying195 hi hcmp hj
  go_enter Tryz.func34, Tryz.ntmps34
  go_wp2
  refine wp_loop_rounds 1 ?_
  rw [rounds_succ]
  go_wp2
  go_ret
  exact ⟨rfl, rfl⟩

end Go.Proofs.YthdfidhijmcbdaaGreatDoor
end

section
namespace Go.Proofs.YthdfidhijmcbdaaGreatDoor
set_option maxRecDepth 100000
set_option linter.unusedSimpArgs false
open Go.RowKit
attribute [local go_sem ↓] Go.wp_at_zero Go.wp_at_succ

theorem form_of_optic {o : Ot} (h : opticB o = true) : formOt o = true := by
  unfold opticB at h
  simp only [Bool.and_eq_true] at h
  exact h.2

set_option maxHeartbeats 4000000 in
theorem typChecked_any {u : Value} {r : Option (Ty × Int)} (s : Ty) (o : Ot) (sv ov : Value) (w : World) (hU : UnfitAt w u) (hJ : JoinsAt w) (hv : OwnT w sv s) (ho : OwnO w ov o) (hs : szTy s ≤ 1048576) (hz : szOt o ≤ 1048576) (hr : r = opticTypeB s o) :
    Calls Tryz.prog 33 #[sv, ov] w (TypPost (fun _ => False) u r w) := by
  obtain ⟨N, hNe⟩ : ∃ N : Nat → Prop, N = fun _ => False := ⟨_, rfl⟩
  rw [← hNe]
  have hva := hv.any
  rw [← hNe] at hva
  obtain ⟨L, lc, A, ac, rfl⟩ := hva.open
  obtain ⟨B, bc, rfl, _⟩ := ho.open
  obtain ⟨hb0, p0, q0, zz0, hs0⟩ := boxes3 w 27 30 60 #[.int .i64 s.kind, .slice L s.labels.length lc, .slice A s.args.length ac] #[.int .i64 o.kind, .string o.name, .int .i64 o.num, .slice B o.args.length bc] #[.int .i64 0, .slice none 0 0, .slice none 0 0, .int .i64 0]
  have HV0 := Lib.hid ((hva.late (w.heap.size + 1 + 1) (by omega)).up hb0)
  have HO0 := Lib.hid (ho.up hb0)
  have HU0 := Lib.hid (hU.below hb0)
  have HJ0 := Lib.hid (hJ.below hb0)
  have HN0 := Lib.hid (show ∀ b, (N b ∨ b = w.heap.size + 1 + 1) → b < (((w.alloc (.cells #[.int .i64 s.kind, .slice L s.labels.length lc, .slice A s.args.length ac] 27)).alloc (.cells #[.int .i64 o.kind, .string o.name, .int .i64 o.num, .slice B o.args.length bc] 30)).alloc (.cells #[.int .i64 0, .slice none 0 0, .slice none 0 0, .int .i64 0] 60)).heap.size from fun b hb => hb.elim (fun hb => by rw [hNe] at hb; exact hb.elim) (fun e => e ▸ zz0.lt))
  have HVA := Lib.hid (implValid_any s _ _ HV0.out.own hs)
  have HOP := Lib.hid (fun W h => implIsOptic_any o (.agg #[.int .i64 o.kind, .string o.name, .int .i64 o.num, .slice B o.args.length bc]) W h (by have := size_le_szO o; omega))
  have HR := Lib.hid hr
  have HB0 := Lib.hid hb0
  have HZ0 := Lib.hid zz0
  have HP0 := Lib.hid p0
  have HQ0 := Lib.hid q0
  have HSZ := Lib.hid hz
  clear hr hva hv ho hJ hb0 zz0 p0 q0 hs0 hNe hs hz
  obtain ⟨hug, huc, ua, rfl⟩ := hU
  clear hug huc
  go_enter Tryz.func33, Tryz.ntmps33
  go_wp2_with fail
  generalize ((w.alloc (.cells #[.int .i64 s.kind, .slice L s.labels.length lc, .slice A s.args.length ac] 27)).alloc (.cells #[.int .i64 o.kind, .string o.name, .int .i64 o.num, .slice B o.args.length bc] 30)).alloc (.cells #[.int .i64 0, .slice none 0 0, .slice none 0 0, .int .i64 0] 60) = w0 at *
  cases hvs : validB s
  · rw [hvs] at HVA
    have HRN := Lib.hid (HR.out.trans (show opticTypeB s o = none by simp [opticTypeB, hvs]))
    clear hvs
    refine HVA.out.mono ?_
    rintro e w1 ⟨rfl, hb1⟩
    have HU1 := Lib.hid (HU0.out.below hb1)
    have HB1 := Lib.hid (HB0.out.trans (hb1.mono HB0.out.size))
    have HZ1 := Lib.hid (HZ0.out.below hb1 HZ0.out.lt)
    clear hb1
    have d0 : w1.cell? ⟨w.heap.size + 1 + 1, 0, none⟩ = some (.int .i64 0) := HZ1.out.cell 0
    have df0 : w1.frozen? ⟨w.heap.size + 1 + 1, 0, none⟩ = false := HZ1.out.free 0
    have d1 : w1.cell? ⟨w.heap.size + 1 + 1, 1, none⟩ = some (.slice none 0 0) := HZ1.out.cell 1
    have df1 : w1.frozen? ⟨w.heap.size + 1 + 1, 1, none⟩ = false := HZ1.out.free 1
    have d2 : w1.cell? ⟨w.heap.size + 1 + 1, 2, none⟩ = some (.slice none 0 0) := HZ1.out.cell 2
    have df2 : w1.frozen? ⟨w.heap.size + 1 + 1, 2, none⟩ = false := HZ1.out.free 2
    have d3 : w1.cell? ⟨w.heap.size + 1 + 1, 3, none⟩ = some (.int .i64 0) := HZ1.out.cell 3
    have df3 : w1.frozen? ⟨w.heap.size + 1 + 1, 3, none⟩ = false := HZ1.out.free 3
    have e0 : w1.drew.cell? ⟨w.heap.size + 1 + 1, 0, none⟩ = some (.int .i64 0) := d0
    have ef0 : w1.drew.frozen? ⟨w.heap.size + 1 + 1, 0, none⟩ = false := df0
    have e1 : w1.drew.cell? ⟨w.heap.size + 1 + 1, 1, none⟩ = some (.slice none 0 0) := d1
    have ef1 : w1.drew.frozen? ⟨w.heap.size + 1 + 1, 1, none⟩ = false := df1
    have e2 : w1.drew.cell? ⟨w.heap.size + 1 + 1, 2, none⟩ = some (.slice none 0 0) := d2
    have ef2 : w1.drew.frozen? ⟨w.heap.size + 1 + 1, 2, none⟩ = false := df2
    have e3 : w1.drew.cell? ⟨w.heap.size + 1 + 1, 3, none⟩ = some (.int .i64 0) := d3
    have ef3 : w1.drew.frozen? ⟨w.heap.size + 1 + 1, 3, none⟩ = false := df3
    have hu0 : w1.cell? ⟨0, 0, none⟩ = some (.iface 195 (.pointer (some ua))) := HU1.out.2.1
    have hud : w1.drew.cell? ⟨0, 0, none⟩ = some (.iface 195 (.pointer (some ua))) := hu0
    have HF := Lib.hid (typ_none (N := N) (u := (.iface 195 (.pointer (some ua)))) HB1.out HRN.out)
    have HG := Lib.hid (fun a b c d => typ_drew ((typ_none4 (N := N) (u := (.iface 195 (.pointer (some ua)))) (show w.heap.size ≤ w.heap.size + 1 + 1 by omega) HB1.out HRN.out a b c d)))
    go_wp2
    go_region
    go_wp2
    first | exact bodyPost_ret (v := .tuple #[.agg #[.int .i64 0, .slice none 0 0, .slice none 0 0, .int .i64 0], .iface 195 (.pointer (some ua))]) (by simp [results, Tryz.results33, go_sem, d0, d1, d2, d3, e0, e1, e2, e3]) rfl HF.out | exact bodyPost_ret (v := .tuple #[.agg #[.int .i64 0, .slice none 0 0, .slice none 0 0, .int .i64 0], .iface 195 (.pointer (some ua))]) (by simp [results, Tryz.results33, go_sem, d0, d1, d2, d3, e0, e1, e2, e3]) rfl (HG.out _ _ _ _)
  · rw [hvs] at HVA
    have HVS := Lib.hid hvs
    clear hvs
    refine HVA.out.mono ?_
    rintro e w1 ⟨rfl, hb1⟩
    have HD1 := Lib.hid hb1
    have HOP1 := Lib.hid (HOP.out w1 (HO0.out.up hb1))
    clear hb1
    have qo0 : w1.cell? ⟨w.heap.size + 1, 0, none⟩ = some (.int .i64 o.kind) := (HQ0.out.below HD1.out HQ0.out.lt).cell 0
    have qo1 : w1.cell? ⟨w.heap.size + 1, 1, none⟩ = some (.string o.name) := (HQ0.out.below HD1.out HQ0.out.lt).cell 1
    have qo2 : w1.cell? ⟨w.heap.size + 1, 2, none⟩ = some (.int .i64 o.num) := (HQ0.out.below HD1.out HQ0.out.lt).cell 2
    have qo3 : w1.cell? ⟨w.heap.size + 1, 3, none⟩ = some (.slice B o.args.length bc) := (HQ0.out.below HD1.out HQ0.out.lt).cell 3
    cases hvo : opticB o
    · rw [hvo] at HOP1
      have HRN := Lib.hid (HR.out.trans (show opticTypeB s o = none by simp [opticTypeB, hvo]))
      clear hvo
      go_wp2_with fail
      refine HOP1.out.mono ?_
      rintro e w2 ⟨rfl, hb2⟩
      have hd2 := HD1.out.trans (hb2.mono HD1.out.size)
      have HU2 := Lib.hid (HU0.out.below hd2)
      have HB2 := Lib.hid (HB0.out.trans (hd2.mono HB0.out.size))
      have HZ2 := Lib.hid (HZ0.out.below hd2 HZ0.out.lt)
      clear hb2 hd2 qo0 qo1 qo2 qo3
      have d0 : w2.cell? ⟨w.heap.size + 1 + 1, 0, none⟩ = some (.int .i64 0) := HZ2.out.cell 0
      have df0 : w2.frozen? ⟨w.heap.size + 1 + 1, 0, none⟩ = false := HZ2.out.free 0
      have d1 : w2.cell? ⟨w.heap.size + 1 + 1, 1, none⟩ = some (.slice none 0 0) := HZ2.out.cell 1
      have df1 : w2.frozen? ⟨w.heap.size + 1 + 1, 1, none⟩ = false := HZ2.out.free 1
      have d2 : w2.cell? ⟨w.heap.size + 1 + 1, 2, none⟩ = some (.slice none 0 0) := HZ2.out.cell 2
      have df2 : w2.frozen? ⟨w.heap.size + 1 + 1, 2, none⟩ = false := HZ2.out.free 2
      have d3 : w2.cell? ⟨w.heap.size + 1 + 1, 3, none⟩ = some (.int .i64 0) := HZ2.out.cell 3
      have df3 : w2.frozen? ⟨w.heap.size + 1 + 1, 3, none⟩ = false := HZ2.out.free 3
      have e0 : w2.drew.cell? ⟨w.heap.size + 1 + 1, 0, none⟩ = some (.int .i64 0) := d0
      have ef0 : w2.drew.frozen? ⟨w.heap.size + 1 + 1, 0, none⟩ = false := df0
      have e1 : w2.drew.cell? ⟨w.heap.size + 1 + 1, 1, none⟩ = some (.slice none 0 0) := d1
      have ef1 : w2.drew.frozen? ⟨w.heap.size + 1 + 1, 1, none⟩ = false := df1
      have e2 : w2.drew.cell? ⟨w.heap.size + 1 + 1, 2, none⟩ = some (.slice none 0 0) := d2
      have ef2 : w2.drew.frozen? ⟨w.heap.size + 1 + 1, 2, none⟩ = false := df2
      have e3 : w2.drew.cell? ⟨w.heap.size + 1 + 1, 3, none⟩ = some (.int .i64 0) := d3
      have ef3 : w2.drew.frozen? ⟨w.heap.size + 1 + 1, 3, none⟩ = false := df3
      have hu0 : w2.cell? ⟨0, 0, none⟩ = some (.iface 195 (.pointer (some ua))) := HU2.out.2.1
      have hud : w2.drew.cell? ⟨0, 0, none⟩ = some (.iface 195 (.pointer (some ua))) := hu0
      have HF := Lib.hid (typ_none (N := N) (u := (.iface 195 (.pointer (some ua)))) HB2.out HRN.out)
      have HG := Lib.hid (fun a b c d => typ_drew ((typ_none4 (N := N) (u := (.iface 195 (.pointer (some ua)))) (show w.heap.size ≤ w.heap.size + 1 + 1 by omega) HB2.out HRN.out a b c d)))
      go_wp2
      go_region
      go_wp2
      first | exact bodyPost_ret (v := .tuple #[.agg #[.int .i64 0, .slice none 0 0, .slice none 0 0, .int .i64 0], .iface 195 (.pointer (some ua))]) (by simp [results, Tryz.results33, go_sem, d0, d1, d2, d3, e0, e1, e2, e3]) rfl HF.out | exact bodyPost_ret (v := .tuple #[.agg #[.int .i64 0, .slice none 0 0, .slice none 0 0, .int .i64 0], .iface 195 (.pointer (some ua))]) (by simp [results, Tryz.results33, go_sem, d0, d1, d2, d3, e0, e1, e2, e3]) rfl (HG.out _ _ _ _)
    · rw [hvo] at HOP1
      have HRY := Lib.hid (HR.out.trans (show opticTypeB s o = typeO o s by simp [opticTypeB, HVS.out, hvo]))
      have hfo := form_of_optic hvo
      clear hvo
      go_wp2_with fail
      refine HOP1.out.mono ?_
      rintro e w2 ⟨rfl, hb2⟩
      have HD2 := Lib.hid (HD1.out.trans (hb2.mono HD1.out.size))
      have HC := Lib.hid (typOne_any o (fun b => N b ∨ b = w.heap.size + 1 + 1) (.iface 195 (.pointer (some ua))) r s (.agg #[.int .i64 s.kind, .slice L s.labels.length lc, .slice A s.args.length ac]) (.agg #[.int .i64 o.kind, .string o.name, .int .i64 o.num, .slice B o.args.length bc]) w2 (fun b hb => Nat.lt_of_lt_of_le (HN0.out b hb) HD2.out.size) (HU0.out.below HD2.out) (HJ0.out.below HD2.out) (HV0.out.up HD2.out) (HO0.out.up HD2.out).here HVS.out hfo HSZ.out HRY.out)
      clear hb2 hfo qo0 qo1 qo2 qo3
      have sp0 : w2.cell? ⟨w.heap.size, 0, none⟩ = some (.int .i64 s.kind) := (HP0.out.below HD2.out HP0.out.lt).cell 0
      have sp1 : w2.cell? ⟨w.heap.size, 1, none⟩ = some (.slice L s.labels.length lc) := (HP0.out.below HD2.out HP0.out.lt).cell 1
      have sp2 : w2.cell? ⟨w.heap.size, 2, none⟩ = some (.slice A s.args.length ac) := (HP0.out.below HD2.out HP0.out.lt).cell 2
      have qo0 : w2.cell? ⟨w.heap.size + 1, 0, none⟩ = some (.int .i64 o.kind) := (HQ0.out.below HD2.out HQ0.out.lt).cell 0
      have qo1 : w2.cell? ⟨w.heap.size + 1, 1, none⟩ = some (.string o.name) := (HQ0.out.below HD2.out HQ0.out.lt).cell 1
      have qo2 : w2.cell? ⟨w.heap.size + 1, 2, none⟩ = some (.int .i64 o.num) := (HQ0.out.below HD2.out HQ0.out.lt).cell 2
      have qo3 : w2.cell? ⟨w.heap.size + 1, 3, none⟩ = some (.slice B o.args.length bc) := (HQ0.out.below HD2.out HQ0.out.lt).cell 3
      go_wp2_with fail
      refine HC.out.mono ?_
      rintro e w3 ⟨L1, lc1, A1, ac1, t1, k1, x1, rfl, hv1, hb1, hs1, hor1⟩
      have hd3 := HD2.out.trans (hb1.mono HD2.out.size)
      have HF := Lib.hid (fun a b c d => typ_fin (r := r) (show w.heap.size ≤ w.heap.size + 1 + 1 by omega) (HB0.out.trans (hd3.mono HB0.out.size)) hv1 hs1 hor1 a b c d)
      have z3 := HZ0.out.below hd3 HZ0.out.lt
      clear sp0 sp1 sp2 qo0 qo1 qo2 qo3 HC
      have d0 : w3.cell? ⟨w.heap.size + 1 + 1, 0, none⟩ = some (.int .i64 0) := z3.cell 0
      have df0 : w3.frozen? ⟨w.heap.size + 1 + 1, 0, none⟩ = false := z3.free 0
      have d1 : w3.cell? ⟨w.heap.size + 1 + 1, 1, none⟩ = some (.slice none 0 0) := z3.cell 1
      have df1 : w3.frozen? ⟨w.heap.size + 1 + 1, 1, none⟩ = false := z3.free 1
      have d2 : w3.cell? ⟨w.heap.size + 1 + 1, 2, none⟩ = some (.slice none 0 0) := z3.cell 2
      have df2 : w3.frozen? ⟨w.heap.size + 1 + 1, 2, none⟩ = false := z3.free 2
      have d3 : w3.cell? ⟨w.heap.size + 1 + 1, 3, none⟩ = some (.int .i64 0) := z3.cell 3
      have df3 : w3.frozen? ⟨w.heap.size + 1 + 1, 3, none⟩ = false := z3.free 3
      clear hd3 z3 hv1 hs1 hor1 hb1
      go_wp2
      exact bodyPost_ret (v := .tuple #[.agg #[.int .i64 t1.kind, .slice L1 t1.labels.length lc1, .slice A1 t1.args.length ac1, .int .i64 k1], x1]) (by simp [results, Tryz.results33, go_sem, d0, d1, d2, d3]) rfl (HF.out _ _ _ _)

set_option maxHeartbeats 4000000 in
theorem implIsTyped_any (s : Ty) (o : Ot) {u : Value} (sv ov : Value) (w : World) (hU : UnfitAt w u) (hJ : JoinsAt w) (hv : OwnT w sv s) (ho : OwnO w ov o) (hs : szTy s ≤ 1048576) (hz : szOt o ≤ 1048576) :
    Calls Tryz.prog 12 #[sv, ov] w (BoolIs (opticTypeB s o).isSome w) := by
  obtain ⟨L, lc, A, ac, hsv⟩ := hv.any.open
  subst hsv
  obtain ⟨B, bc, hov, _⟩ := ho.open
  subst hov
  obtain ⟨hb0, p0, q0, hs0⟩ := boxes2 w 27 30 #[.int .i64 s.kind, .slice L s.labels.length lc, .slice A s.args.length ac] #[.int .i64 o.kind, .string o.name, .int .i64 o.num, .slice B o.args.length bc]
  have HU0 := Lib.hid (hU.below hb0)
  obtain ⟨hug, huc, ua, rfl⟩ := hU
  obtain ⟨r, hr⟩ : ∃ r, r = opticTypeB s o := ⟨_, rfl⟩
  rw [← hr]
  have HC := Lib.hid (typChecked_any (r := r) s o _ _ _ HU0.out (hJ.below hb0) (hv.up hb0) (ho.up hb0) hs hz hr)
  have HB0 := Lib.hid hb0
  clear hv ho hJ hb0 hs hz hug huc hr p0 q0 hs0
  go_enter Tryz.func12, Tryz.ntmps12
  go_wp2_with fail
  generalize (w.alloc (.cells #[.int .i64 s.kind, .slice L s.labels.length lc, .slice A s.args.length ac] 27)).alloc (.cells #[.int .i64 o.kind, .string o.name, .int .i64 o.num, .slice B o.args.length bc] 30) = w0 at *
  refine HC.out.mono ?_
  rintro e w1 ⟨L1, lc1, A1, ac1, t1, k1, x1, rfl, hv1, hb1, hs1, hor1⟩
  have hx1 := (Below.refl w1.heap.size w1).alloc (Nat.le_refl _) (.cells #[.int .i64 t1.kind, .slice L1 t1.labels.length lc1, .slice A1 t1.args.length ac1, .int .i64 k1] 60)
  have hd1 := hb1.trans (hx1.mono hb1.size)
  have HN1 := Lib.hid (show Whole1 (w1.alloc (.cells #[.int .i64 t1.kind, .slice L1 t1.labels.length lc1, .slice A1 t1.args.length ac1, .int .i64 k1] 60)) w1.heap.size 60 #[.int .i64 t1.kind, .slice L1 t1.labels.length lc1, .slice A1 t1.args.length ac1, .int .i64 k1] from Whole1.new _ _ _)
  have HV1 := Lib.hid (hv1.up hx1)
  have HB1 := Lib.hid (HB0.out.trans (hd1.mono HB0.out.size))
  have HU1 := Lib.hid (HU0.out.below hd1)
  have HS1 := Lib.hid hs1
  have HD1 := Lib.hid hd1
  clear hx1 hd1 hv1 hb1 hs1 HC
  go_upto_region 2 with fail
  generalize (w1.alloc (.cells #[.int .i64 t1.kind, .slice L1 t1.labels.length lc1, .slice A1 t1.args.length ac1, .int .i64 k1] 60)) = W1 at *
  have hu0 : W1.cell? ⟨0, 0, none⟩ = some (.iface 195 (.pointer (some ua))) := HU1.out.2.1
  rcases hor1 with ⟨rn, rfl⟩ | ⟨rs, rfl⟩
  · have HR := Lib.hid rn
    clear rn
    go_wp2_with fail
    refine (errIs_same ua _).mono ?_
    rintro e w2 ⟨rfl, rfl⟩
    go_wp2
    go_ret
    exact ⟨by rw [HR.out]; rfl, HB1.out⟩
  · have HR := Lib.hid rs
    clear rs
    go_wp2_with fail
    refine (errIs_nil ua _).mono ?_
    rintro e w2 ⟨rfl, rfl⟩
    go_wp2
    go_ret
    exact ⟨by rw [HR.out]; rfl, HB1.out⟩

set_option maxHeartbeats 4000000 in
theorem implOpticType_any (s : Ty) (o : Ot) {u : Value} (sv ov : Value) (w : World) (hU : UnfitAt w u) (hJ : JoinsAt w) (hv : OwnT w sv s) (ho : OwnO w ov o) (hs : szTy s ≤ 1048576) (hz : szOt o ≤ 1048576) :
    Calls Tryz.prog 8 #[sv, ov] w (TypePost (tyO (opticTypeB s o)) (kdO (opticTypeB s o)) (opticTypeB s o).isSome w) := by
  obtain ⟨L, lc, A, ac, hsv⟩ := hv.any.open
  subst hsv
  obtain ⟨B, bc, hov, _⟩ := ho.open
  subst hov
  obtain ⟨hb0, p0, q0, zz0, hs0⟩ := boxes3 w 27 30 27 #[.int .i64 s.kind, .slice L s.labels.length lc, .slice A s.args.length ac] #[.int .i64 o.kind, .string o.name, .int .i64 o.num, .slice B o.args.length bc] #[.int .i64 0, .slice none 0 0, .slice none 0 0]
  have HZ0 := Lib.hid zz0
  have HU0 := Lib.hid (hU.below hb0)
  obtain ⟨hug, huc, ua, rfl⟩ := hU
  obtain ⟨r, hr⟩ : ∃ r, r = opticTypeB s o := ⟨_, rfl⟩
  rw [← hr]
  have HC := Lib.hid (typChecked_any (r := r) s o _ _ _ HU0.out (hJ.below hb0) (hv.up hb0) (ho.up hb0) hs hz hr)
  have HB0 := Lib.hid hb0
  clear hv ho hJ hb0 hs hz hug huc hr p0 q0 zz0 hs0
  go_enter Tryz.func8, Tryz.ntmps8
  go_wp2_with fail
  generalize ((w.alloc (.cells #[.int .i64 s.kind, .slice L s.labels.length lc, .slice A s.args.length ac] 27)).alloc (.cells #[.int .i64 o.kind, .string o.name, .int .i64 o.num, .slice B o.args.length bc] 30)).alloc (.cells #[.int .i64 0, .slice none 0 0, .slice none 0 0] 27) = w0 at *
  refine HC.out.mono ?_
  rintro e w1 ⟨L1, lc1, A1, ac1, t1, k1, x1, rfl, hv1, hb1, hs1, hor1⟩
  have hx1 := (Below.refl w1.heap.size w1).alloc (Nat.le_refl _) (.cells #[.int .i64 t1.kind, .slice L1 t1.labels.length lc1, .slice A1 t1.args.length ac1, .int .i64 k1] 60)
  have hd1 := hb1.trans (hx1.mono hb1.size)
  have HN1 := Lib.hid (show Whole1 (w1.alloc (.cells #[.int .i64 t1.kind, .slice L1 t1.labels.length lc1, .slice A1 t1.args.length ac1, .int .i64 k1] 60)) w1.heap.size 60 #[.int .i64 t1.kind, .slice L1 t1.labels.length lc1, .slice A1 t1.args.length ac1, .int .i64 k1] from Whole1.new _ _ _)
  have HV1 := Lib.hid (hv1.up hx1)
  have HB1 := Lib.hid (HB0.out.trans (hd1.mono HB0.out.size))
  have HU1 := Lib.hid (HU0.out.below hd1)
  have HS1 := Lib.hid hs1
  have HZ1 := Lib.hid (HZ0.out.below hd1 HZ0.out.lt)
  have hne : w.heap.size + 1 + 1 ≠ w1.heap.size := by have := HZ0.out.lt; have := hb1.size; omega
  have HD1 := Lib.hid hd1
  clear hx1 hd1 hv1 hb1 hs1 HC
  go_upto_region 2 with fail
  generalize (w1.alloc (.cells #[.int .i64 t1.kind, .slice L1 t1.labels.length lc1, .slice A1 t1.args.length ac1, .int .i64 k1] 60)) = W1 at *
  have hu0 : W1.cell? ⟨0, 0, none⟩ = some (.iface 195 (.pointer (some ua))) := HU1.out.2.1
  rcases hor1 with ⟨rn, rfl⟩ | ⟨rs, rfl⟩
  · have HF := Lib.hid (fun x y z => (show TypePost (tyO r) (kdO r) r.isSome w (.returned (.tuple #[.agg #[.int .i64 0, .slice none 0 0, .slice none 0 0], .int .i64 0, .bool false])) (((W1.setCell ⟨w.heap.size + 1 + 1, 0, none⟩ x).setCell ⟨w.heap.size + 1 + 1, 1, none⟩ y).setCell ⟨w.heap.size + 1 + 1, 2, none⟩ z) from by
      rw [rn]
      exact ⟨_, rfl, zero_in _ _, ((HB1.out.setCell (p := ⟨w.heap.size + 1 + 1, 0, none⟩) (by show w.heap.size ≤ w.heap.size + 1 + 1; omega) _).setCell (p := ⟨w.heap.size + 1 + 1, 1, none⟩) (by show w.heap.size ≤ w.heap.size + 1 + 1; omega) _).setCell (p := ⟨w.heap.size + 1 + 1, 2, none⟩) (by show w.heap.size ≤ w.heap.size + 1 + 1; omega) _⟩))
    have HG := Lib.hid (show TypePost (tyO r) (kdO r) r.isSome w (.returned (.tuple #[.agg #[.int .i64 0, .slice none 0 0, .slice none 0 0], .int .i64 0, .bool false])) W1 from by
      rw [rn]
      exact ⟨_, rfl, zero_in _ _, HB1.out⟩)
    have d0 : W1.cell? ⟨w.heap.size + 1 + 1, 0, none⟩ = some (.int .i64 0) := HZ1.out.cell 0
    have df0 : W1.frozen? ⟨w.heap.size + 1 + 1, 0, none⟩ = false := HZ1.out.free 0
    have d1 : W1.cell? ⟨w.heap.size + 1 + 1, 1, none⟩ = some (.slice none 0 0) := HZ1.out.cell 1
    have df1 : W1.frozen? ⟨w.heap.size + 1 + 1, 1, none⟩ = false := HZ1.out.free 1
    have d2 : W1.cell? ⟨w.heap.size + 1 + 1, 2, none⟩ = some (.slice none 0 0) := HZ1.out.cell 2
    have df2 : W1.frozen? ⟨w.heap.size + 1 + 1, 2, none⟩ = false := HZ1.out.free 2
    clear rn hne
    go_wp2_with fail
    refine (errIs_same ua _).mono ?_
    rintro e w2 ⟨rfl, rfl⟩
    go_wp2
    first | exact bodyPost_ret (v := .tuple #[.agg #[.int .i64 0, .slice none 0 0, .slice none 0 0], .int .i64 0, .bool false]) (by simp [results, Tryz.results8, go_sem, d0, d1, d2]) rfl HG.out | exact bodyPost_ret (v := .tuple #[.agg #[.int .i64 0, .slice none 0 0, .slice none 0 0], .int .i64 0, .bool false]) (by simp [results, Tryz.results8, go_sem, d0, d1, d2]) rfl (HF.out _ _ _)
  · have HR := Lib.hid rs
    have hl1 := HN1.out.lt
    have hzl : w.heap.size + 1 + 1 < W1.heap.size := HZ1.out.lt
    have HCP := Lib.hid (copyType_any t1 _ _ HV1.out.drew.own.here (by have := HS1.out; omega))
    have HPP := Lib.hid (show tyO r = t1 ∧ kdO r = k1 ∧ r.isSome = true by rw [rs]; exact ⟨rfl, rfl, rfl⟩)
    clear rs
    go_wp2_with fail
    refine (errIs_nil ua _).mono ?_
    rintro e w2 ⟨rfl, hw2⟩
    rw [hw2]
    clear hw2 w2
    go_upto_region 4 with fail
    have fa0 : W1.drew.cell? ⟨w1.heap.size, 0, none⟩ = some (.int .i64 t1.kind) := (HN1.out.cell 0)
    have fa1 : W1.drew.cell? ⟨w1.heap.size, 1, none⟩ = some (.slice L1 t1.labels.length lc1) := (HN1.out.cell 1)
    have fa2 : W1.drew.cell? ⟨w1.heap.size, 2, none⟩ = some (.slice A1 t1.args.length ac1) := (HN1.out.cell 2)
    have fa3 : W1.drew.cell? ⟨w1.heap.size, 3, none⟩ = some (.int .i64 k1) := (HN1.out.cell 3)
    go_region_held3 (fun x' : World => x'.cell? ⟨w1.heap.size, 0, none⟩ = some (.int .i64 t1.kind) ∧ x'.cell? ⟨w1.heap.size, 1, none⟩ = some (.slice L1 t1.labels.length lc1) ∧ x'.cell? ⟨w1.heap.size, 2, none⟩ = some (.slice A1 t1.args.length ac1) ∧ x'.cell? ⟨w1.heap.size, 3, none⟩ = some (.int .i64 k1)) (first | with_reducible exact ⟨fa0, fa1, fa2, fa3⟩ | with_reducible exact ⟨fk0, fk1, fk2, fk3⟩ | with_reducible exact ⟨fl0, fl1, fl2, fl3⟩ | go_keep) (first | (go_simp; go_at_call 35; (with_reducible refine HCP.out.mono ?_); rintro e w9 ⟨v9, rfl, hv9, hb9'⟩; have HV9 := Lib.hid hv9; obtain ⟨L2, lc2, A2, ac2, _, rfl, _⟩ := hv9.open; have hb9 := (Below.refl W1.heap.size W1).drew.trans hb9'; have fk0 : w9.cell? ⟨w1.heap.size, 0, none⟩ = some (.int .i64 t1.kind) := (hb9.cell (p := ⟨w1.heap.size, 0, none⟩) hl1).trans (HN1.out.cell 0); have fl0 : (((w9.setCell ⟨w.heap.size + 1 + 1, 0, none⟩ (.int .i64 t1.kind)).setCell ⟨w.heap.size + 1 + 1, 1, none⟩ (.slice L2 t1.labels.length lc2)).setCell ⟨w.heap.size + 1 + 1, 2, none⟩ (.slice A2 t1.args.length ac2)).cell? ⟨w1.heap.size, 0, none⟩ = some (.int .i64 t1.kind) := set3_far _ _ _ _ fk0 hne; have fk1 : w9.cell? ⟨w1.heap.size, 1, none⟩ = some (.slice L1 t1.labels.length lc1) := (hb9.cell (p := ⟨w1.heap.size, 1, none⟩) hl1).trans (HN1.out.cell 1); have fl1 : (((w9.setCell ⟨w.heap.size + 1 + 1, 0, none⟩ (.int .i64 t1.kind)).setCell ⟨w.heap.size + 1 + 1, 1, none⟩ (.slice L2 t1.labels.length lc2)).setCell ⟨w.heap.size + 1 + 1, 2, none⟩ (.slice A2 t1.args.length ac2)).cell? ⟨w1.heap.size, 1, none⟩ = some (.slice L1 t1.labels.length lc1) := set3_far _ _ _ _ fk1 hne; have fk2 : w9.cell? ⟨w1.heap.size, 2, none⟩ = some (.slice A1 t1.args.length ac1) := (hb9.cell (p := ⟨w1.heap.size, 2, none⟩) hl1).trans (HN1.out.cell 2); have fl2 : (((w9.setCell ⟨w.heap.size + 1 + 1, 0, none⟩ (.int .i64 t1.kind)).setCell ⟨w.heap.size + 1 + 1, 1, none⟩ (.slice L2 t1.labels.length lc2)).setCell ⟨w.heap.size + 1 + 1, 2, none⟩ (.slice A2 t1.args.length ac2)).cell? ⟨w1.heap.size, 2, none⟩ = some (.slice A1 t1.args.length ac1) := set3_far _ _ _ _ fk2 hne; have fk3 : w9.cell? ⟨w1.heap.size, 3, none⟩ = some (.int .i64 k1) := (hb9.cell (p := ⟨w1.heap.size, 3, none⟩) hl1).trans (HN1.out.cell 3); have fl3 : (((w9.setCell ⟨w.heap.size + 1 + 1, 0, none⟩ (.int .i64 t1.kind)).setCell ⟨w.heap.size + 1 + 1, 1, none⟩ (.slice L2 t1.labels.length lc2)).setCell ⟨w.heap.size + 1 + 1, 2, none⟩ (.slice A2 t1.args.length ac2)).cell? ⟨w1.heap.size, 3, none⟩ = some (.int .i64 k1) := set3_far _ _ _ _ fk3 hne; have z9 := HZ1.out.below hb9 HZ1.out.lt; have d0 : w9.cell? ⟨w.heap.size + 1 + 1, 0, none⟩ = some (.int .i64 0) := z9.cell 0; have df0 : w9.frozen? ⟨w.heap.size + 1 + 1, 0, none⟩ = false := z9.free 0; have d1 : w9.cell? ⟨w.heap.size + 1 + 1, 1, none⟩ = some (.slice none 0 0) := z9.cell 1; have df1 : w9.frozen? ⟨w.heap.size + 1 + 1, 1, none⟩ = false := z9.free 1; have d2 : w9.cell? ⟨w.heap.size + 1 + 1, 2, none⟩ = some (.slice none 0 0) := z9.cell 2; have df2 : w9.frozen? ⟨w.heap.size + 1 + 1, 2, none⟩ = false := z9.free 2; have HF := Lib.hid (fun x y z => (show TypePost (tyO r) (kdO r) r.isSome w (.returned (.tuple #[.agg #[.int .i64 t1.kind, .slice L2 t1.labels.length lc2, .slice A2 t1.args.length ac2], .int .i64 k1, .bool true])) (((w9.setCell ⟨w.heap.size + 1 + 1, 0, none⟩ x).setCell ⟨w.heap.size + 1 + 1, 1, none⟩ y).setCell ⟨w.heap.size + 1 + 1, 2, none⟩ z) from by rw [HPP.out.1, HPP.out.2.1, HPP.out.2.2]; exact ⟨_, rfl, (set3_in HV9.out hzl (by omega) (HB1.out.trans (hb9.mono HB1.out.size)) x y z).1, (set3_in HV9.out hzl (by omega) (HB1.out.trans (hb9.mono HB1.out.size)) x y z).2⟩)); clear hb9' hb9 z9 hv9))
    all_goals go_wp2
    all_goals exact bodyPost_ret (v := .tuple #[.agg #[.int .i64 t1.kind, .slice L2 t1.labels.length lc2, .slice A2 t1.args.length ac2], .int .i64 k1, .bool true]) (by simp [results, Tryz.results8, go_sem, d0, d1, d2]) rfl (HF.out _ _ _)

end Go.Proofs.YthdfidhijmcbdaaGreatDoor
end
