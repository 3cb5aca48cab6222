/- impl.typingOfElements, typingOfChange, typingOfFields, typingOfPart. -/
import Derived.Test.YthdfidhijmcbdaaGreatDoorTypLib
import Derived.Test.YthdfidhijmcbdaaGreatDoorSpecOLeaf
import Derived.Test.YthdfidhijmcbdaaGreatDoorImplPart
import Derived.Test.YthdfidhijmcbdaaGreatDoorImplUniform
import Derived.Deep.RegionHeld3
import Derived.Deep.RegionWith
import Derived.StillTailTactics
namespace Go.Proofs.YthdfidhijmcbdaaGreatDoor
set_option maxRecDepth 100000
set_option linter.unusedSimpArgs false
open Go.RowKit
attribute [local go_sem ↓] Go.wp_at_zero Go.wp_at_succ

set_option maxHeartbeats 1000000 in
theorem typElements_any {N : Nat → Prop} {u : Value} {r : Option (Ty × Int)} (t : Ty) (v : Value) (kd : Int) (w : World) (hN : ∀ b, N b → b < w.heap.size) (hU : UnfitAt w u) (hv : OwnA N w v t) (hval : validB t = true) (hr : r = if t.kind = 5 then t.args[0]?.map (·, kd) else none) :
    Calls Tryz.prog 114 #[v, .int .i64 kd] w (TypPost N u r w) := by
  have HR := Lib.hid hr
  clear hr
  have hse := szTy_valid hval
  obtain ⟨L, lc, A, ac, rfl⟩ := hv.open
  obtain ⟨hb0, p0, z0, hs0⟩ := boxes2 w 27 60 #[.int .i64 t.kind, .slice L t.labels.length lc, .slice A t.args.length ac] #[.int .i64 0, .slice none 0 0, .slice none 0 0, .int .i64 0]
  have hv0 := (hv.late (w.heap.size + 1) (by omega)).up hb0
  have hN0 : ∀ b, (N b ∨ b = w.heap.size + 1) → b < ((w.alloc (.cells #[.int .i64 t.kind, .slice L t.labels.length lc, .slice A t.args.length ac] 27)).alloc (.cells #[.int .i64 0, .slice none 0 0, .slice none 0 0, .int .i64 0] 60)).heap.size := fun b hb => hb.elim (fun hb => Nat.lt_of_lt_of_le (hN b hb) hb0.size) (fun e => e ▸ z0.lt)
  have HU0 := Lib.hid (hU.below hb0)
  have HZ := Lib.hid (show w.heap.size ≤ w.heap.size + 1 by omega)
  clear hv hU hN hs0
  go_enter Tryz.func114, Tryz.ntmps114
  go_upto_region 1 with fail
  generalize (w.alloc (.cells #[.int .i64 t.kind, .slice L t.labels.length lc, .slice A t.args.length ac] 27)).alloc (.cells #[.int .i64 0, .slice none 0 0, .slice none 0 0, .int .i64 0] 60) = w0 at *
  have c0 : w0.cell? ⟨w.heap.size, 0, none⟩ = some (.int .i64 t.kind) := p0.cell 0
  have c1 : w0.cell? ⟨w.heap.size, 1, none⟩ = some (.slice L t.labels.length lc) := p0.cell 1
  have c2 : w0.cell? ⟨w.heap.size, 2, none⟩ = some (.slice A t.args.length ac) := p0.cell 2
  by_cases h5 : t.kind = 5
  · have i1 : (t.kind != 5) = false := by simp [h5]
    obtain ⟨k, ls, ts⟩ := t
    simp only [Ty.kind, Ty.labels, Ty.args] at *
    subst h5
    obtain ⟨te, rfl⟩ := list_one hval
    obtain ⟨g, L', lc', A', ac', rfl, hg, x0, x1, x2, hx⟩ := hv0.elem 0 (by simp [Ty.args])
    have hse1 : szTy te ≤ 660 := sz_argV hval 0 (by simp [Ty.args])
    have y0 : w0.cell? ⟨g, 0, none⟩ = some (.int .i64 te.kind) := x0
    have y1 : w0.cell? ⟨g, 1, none⟩ = some (.slice L' te.labels.length lc') := x1
    have y2 : w0.cell? ⟨g, 2, none⟩ = some (.slice A' te.args.length ac') := x2
    have hy : OwnA (fun b => N b ∨ b = w.heap.size + 1) w0 (.agg #[.int .i64 te.kind, .slice L' te.labels.length lc', .slice A' te.args.length ac']) te := hx
    clear x0 x1 x2 hx
    have HF := Lib.hid (fun a b c d => typ_fin (u := u) (r := r) (kd := kd) HZ.out hb0 hy (by omega) (.inr ⟨HR.out, rfl⟩) a b c d)
    have d0 : w0.cell? ⟨w.heap.size + 1, 0, none⟩ = some (.int .i64 0) := z0.cell 0
    have df0 : w0.frozen? ⟨w.heap.size + 1, 0, none⟩ = false := z0.free 0
    have d1 : w0.cell? ⟨w.heap.size + 1, 1, none⟩ = some (.slice none 0 0) := z0.cell 1
    have df1 : w0.frozen? ⟨w.heap.size + 1, 1, none⟩ = false := z0.free 1
    have d2 : w0.cell? ⟨w.heap.size + 1, 2, none⟩ = some (.slice none 0 0) := z0.cell 2
    have df2 : w0.frozen? ⟨w.heap.size + 1, 2, none⟩ = false := z0.free 2
    have d3 : w0.cell? ⟨w.heap.size + 1, 3, none⟩ = some (.int .i64 0) := z0.cell 3
    have df3 : w0.frozen? ⟨w.heap.size + 1, 3, none⟩ = false := z0.free 3
    clear hy hv0 hval hb0 p0 z0 HU0 HZ hse hse1 hg hN0
    go_wp2
    exact bodyPost_ret (v := .tuple #[.agg #[.int .i64 te.kind, .slice L' te.labels.length lc', .slice A' te.args.length ac', .int .i64 kd], .nilIface]) (by simp [results, Tryz.results114, go_sem, d0, d1, d2, d3]) rfl (HF.out _ _ _ _)
  · have i1 : (t.kind != 5) = true := by simpa using h5
    have HRN := Lib.hid (HR.out.trans (if_neg h5))
    have HB := Lib.hid hb0
    have HU := HU0
    have zz := z0
    clear h5 hv0 hval hb0 p0 z0 HU0 HZ hse hN0
    have d0 : w0.cell? ⟨w.heap.size + 1, 0, none⟩ = some (.int .i64 0) := zz.cell 0
    have df0 : w0.frozen? ⟨w.heap.size + 1, 0, none⟩ = false := zz.free 0
    have d1 : w0.cell? ⟨w.heap.size + 1, 1, none⟩ = some (.slice none 0 0) := zz.cell 1
    have df1 : w0.frozen? ⟨w.heap.size + 1, 1, none⟩ = false := zz.free 1
    have d2 : w0.cell? ⟨w.heap.size + 1, 2, none⟩ = some (.slice none 0 0) := zz.cell 2
    have df2 : w0.frozen? ⟨w.heap.size + 1, 2, none⟩ = false := zz.free 2
    have d3 : w0.cell? ⟨w.heap.size + 1, 3, none⟩ = some (.int .i64 0) := zz.cell 3
    have df3 : w0.frozen? ⟨w.heap.size + 1, 3, none⟩ = false := zz.free 3
    have e0 : w0.drew.cell? ⟨w.heap.size + 1, 0, none⟩ = some (.int .i64 0) := d0
    have ef0 : w0.drew.frozen? ⟨w.heap.size + 1, 0, none⟩ = false := df0
    have e1 : w0.drew.cell? ⟨w.heap.size + 1, 1, none⟩ = some (.slice none 0 0) := d1
    have ef1 : w0.drew.frozen? ⟨w.heap.size + 1, 1, none⟩ = false := df1
    have e2 : w0.drew.cell? ⟨w.heap.size + 1, 2, none⟩ = some (.slice none 0 0) := d2
    have ef2 : w0.drew.frozen? ⟨w.heap.size + 1, 2, none⟩ = false := df2
    have e3 : w0.drew.cell? ⟨w.heap.size + 1, 3, none⟩ = some (.int .i64 0) := d3
    have ef3 : w0.drew.frozen? ⟨w.heap.size + 1, 3, none⟩ = false := df3
    obtain ⟨_, hu, ua, hua⟩ := HU.out
    subst hua
    have hud : w0.drew.cell? ⟨0, 0, none⟩ = some (.iface 195 (.pointer (some ua))) := hu
    have HF := Lib.hid (typ_none (N := N) (u := (.iface 195 (.pointer (some ua)))) HB.out HRN.out)
    have HG := Lib.hid (fun a b c d => typ_drew (typ_none4 (N := N) (u := (.iface 195 (.pointer (some ua)))) (show w.heap.size ≤ w.heap.size + 1 by omega) HB.out HRN.out a b c d))
    clear zz HU HB HRN
    go_wp2
    go_region
    go_wp2
    first | exact bodyPost_ret (v := .tuple #[.agg #[.int .i64 0, .slice none 0 0, .slice none 0 0, .int .i64 0], .iface 195 (.pointer (some ua))]) (by simp [results, Tryz.results114, go_sem, d0, d1, d2, d3, e0, e1, e2, e3]) rfl HF.out | exact bodyPost_ret (v := .tuple #[.agg #[.int .i64 0, .slice none 0 0, .slice none 0 0, .int .i64 0], .iface 195 (.pointer (some ua))]) (by simp [results, Tryz.results114, go_sem, d0, d1, d2, d3, e0, e1, e2, e3]) rfl (HG.out _ _ _ _)

set_option maxHeartbeats 1000000 in
theorem typChange_any {N : Nat → Prop} {u : Value} {r : Option (Ty × Int)} (t : Ty) (v : Value) (asked : Int) (w : World) (hN : ∀ b, N b → b < w.heap.size) (hU : UnfitAt w u) (hv : OwnA N w v t) (hval : validB t = true) (hr : r = if t.kind = asked then some (t, 1) else none) :
    Calls Tryz.prog 116 #[v, .int .i64 asked] w (TypPost N u r w) := by
  have HR := Lib.hid hr
  clear hr
  have hse := szTy_valid hval
  obtain ⟨L, lc, A, ac, rfl⟩ := hv.open
  obtain ⟨hb0, p0, z0, hs0⟩ := boxes2 w 27 60 #[.int .i64 t.kind, .slice L t.labels.length lc, .slice A t.args.length ac] #[.int .i64 0, .slice none 0 0, .slice none 0 0, .int .i64 0]
  have hv0 := (hv.late (w.heap.size + 1) (by omega)).up hb0
  have hN0 : ∀ b, (N b ∨ b = w.heap.size + 1) → b < ((w.alloc (.cells #[.int .i64 t.kind, .slice L t.labels.length lc, .slice A t.args.length ac] 27)).alloc (.cells #[.int .i64 0, .slice none 0 0, .slice none 0 0, .int .i64 0] 60)).heap.size := fun b hb => hb.elim (fun hb => Nat.lt_of_lt_of_le (hN b hb) hb0.size) (fun e => e ▸ z0.lt)
  have HU0 := Lib.hid (hU.below hb0)
  have HZ := Lib.hid (show w.heap.size ≤ w.heap.size + 1 by omega)
  clear hv hU hN hs0
  go_enter Tryz.func116, Tryz.ntmps116
  go_upto_region 1 with fail
  generalize (w.alloc (.cells #[.int .i64 t.kind, .slice L t.labels.length lc, .slice A t.args.length ac] 27)).alloc (.cells #[.int .i64 0, .slice none 0 0, .slice none 0 0, .int .i64 0] 60) = w0 at *
  have c0 : w0.cell? ⟨w.heap.size, 0, none⟩ = some (.int .i64 t.kind) := p0.cell 0
  have c1 : w0.cell? ⟨w.heap.size, 1, none⟩ = some (.slice L t.labels.length lc) := p0.cell 1
  have c2 : w0.cell? ⟨w.heap.size, 2, none⟩ = some (.slice A t.args.length ac) := p0.cell 2
  by_cases h5 : t.kind = asked
  · have i1 : (t.kind != asked) = false := by simp [h5]
    have HF := Lib.hid (fun a b c d => typ_fin (u := u) (r := r) (kd := 1) HZ.out hb0 hv0 (by omega) (.inr ⟨HR.out.trans (if_pos h5), rfl⟩) a b c d)
    have d0 : w0.cell? ⟨w.heap.size + 1, 0, none⟩ = some (.int .i64 0) := z0.cell 0
    have df0 : w0.frozen? ⟨w.heap.size + 1, 0, none⟩ = false := z0.free 0
    have d1 : w0.cell? ⟨w.heap.size + 1, 1, none⟩ = some (.slice none 0 0) := z0.cell 1
    have df1 : w0.frozen? ⟨w.heap.size + 1, 1, none⟩ = false := z0.free 1
    have d2 : w0.cell? ⟨w.heap.size + 1, 2, none⟩ = some (.slice none 0 0) := z0.cell 2
    have df2 : w0.frozen? ⟨w.heap.size + 1, 2, none⟩ = false := z0.free 2
    have d3 : w0.cell? ⟨w.heap.size + 1, 3, none⟩ = some (.int .i64 0) := z0.cell 3
    have df3 : w0.frozen? ⟨w.heap.size + 1, 3, none⟩ = false := z0.free 3
    clear hv0 hval hb0 p0 z0 HU0 HZ hse h5 hN0
    go_wp2
    exact bodyPost_ret (v := .tuple #[.agg #[.int .i64 t.kind, .slice L t.labels.length lc, .slice A t.args.length ac, .int .i64 1], .nilIface]) (by simp [results, Tryz.results116, go_sem, d0, d1, d2, d3]) rfl (HF.out _ _ _ _)
  · have i1 : (t.kind != asked) = true := by simpa using h5
    have HRN := Lib.hid (HR.out.trans (if_neg h5))
    have HB := Lib.hid hb0
    have HU := HU0
    have zz := z0
    clear h5 hv0 hval hb0 p0 z0 HU0 HZ hse hN0
    have d0 : w0.cell? ⟨w.heap.size + 1, 0, none⟩ = some (.int .i64 0) := zz.cell 0
    have df0 : w0.frozen? ⟨w.heap.size + 1, 0, none⟩ = false := zz.free 0
    have d1 : w0.cell? ⟨w.heap.size + 1, 1, none⟩ = some (.slice none 0 0) := zz.cell 1
    have df1 : w0.frozen? ⟨w.heap.size + 1, 1, none⟩ = false := zz.free 1
    have d2 : w0.cell? ⟨w.heap.size + 1, 2, none⟩ = some (.slice none 0 0) := zz.cell 2
    have df2 : w0.frozen? ⟨w.heap.size + 1, 2, none⟩ = false := zz.free 2
    have d3 : w0.cell? ⟨w.heap.size + 1, 3, none⟩ = some (.int .i64 0) := zz.cell 3
    have df3 : w0.frozen? ⟨w.heap.size + 1, 3, none⟩ = false := zz.free 3
    have e0 : w0.drew.cell? ⟨w.heap.size + 1, 0, none⟩ = some (.int .i64 0) := d0
    have ef0 : w0.drew.frozen? ⟨w.heap.size + 1, 0, none⟩ = false := df0
    have e1 : w0.drew.cell? ⟨w.heap.size + 1, 1, none⟩ = some (.slice none 0 0) := d1
    have ef1 : w0.drew.frozen? ⟨w.heap.size + 1, 1, none⟩ = false := df1
    have e2 : w0.drew.cell? ⟨w.heap.size + 1, 2, none⟩ = some (.slice none 0 0) := d2
    have ef2 : w0.drew.frozen? ⟨w.heap.size + 1, 2, none⟩ = false := df2
    have e3 : w0.drew.cell? ⟨w.heap.size + 1, 3, none⟩ = some (.int .i64 0) := d3
    have ef3 : w0.drew.frozen? ⟨w.heap.size + 1, 3, none⟩ = false := df3
    obtain ⟨_, hu, ua, hua⟩ := HU.out
    subst hua
    have hud : w0.drew.cell? ⟨0, 0, none⟩ = some (.iface 195 (.pointer (some ua))) := hu
    have HF := Lib.hid (typ_none (N := N) (u := (.iface 195 (.pointer (some ua)))) HB.out HRN.out)
    have HG := Lib.hid (fun a b c d => typ_drew (typ_none4 (N := N) (u := (.iface 195 (.pointer (some ua)))) (show w.heap.size ≤ w.heap.size + 1 by omega) HB.out HRN.out a b c d))
    clear zz HU HB HRN
    go_wp2
    go_region
    go_wp2
    first | exact bodyPost_ret (v := .tuple #[.agg #[.int .i64 0, .slice none 0 0, .slice none 0 0, .int .i64 0], .iface 195 (.pointer (some ua))]) (by simp [results, Tryz.results116, go_sem, d0, d1, d2, d3, e0, e1, e2, e3]) rfl HF.out | exact bodyPost_ret (v := .tuple #[.agg #[.int .i64 0, .slice none 0 0, .slice none 0 0, .int .i64 0], .iface 195 (.pointer (some ua))]) (by simp [results, Tryz.results116, go_sem, d0, d1, d2, d3, e0, e1, e2, e3]) rfl (HG.out _ _ _ _)

set_option maxHeartbeats 1000000 in
theorem typFields_any {N : Nat → Prop} {u : Value} {r : Option (Ty × Int)} (t : Ty) (v : Value) (w : World) (hN : ∀ b, N b → b < w.heap.size) (hU : UnfitAt w u) (hv : OwnA N w v t) (hval : validB t = true) (hr : r = if uniformB t then t.args[0]?.map (·, 5) else none) :
    Calls Tryz.prog 115 #[v] w (TypPost N u r w) := by
  have HR := Lib.hid hr
  clear hr
  have hse := szTy_valid hval
  obtain ⟨L, lc, A, ac, rfl⟩ := hv.open
  obtain ⟨hb0, p0, z0, hs0⟩ := boxes2 w 27 60 #[.int .i64 t.kind, .slice L t.labels.length lc, .slice A t.args.length ac] #[.int .i64 0, .slice none 0 0, .slice none 0 0, .int .i64 0]
  have hv0 := (hv.late (w.heap.size + 1) (by omega)).up hb0
  have hN0 : ∀ b, (N b ∨ b = w.heap.size + 1) → b < ((w.alloc (.cells #[.int .i64 t.kind, .slice L t.labels.length lc, .slice A t.args.length ac] 27)).alloc (.cells #[.int .i64 0, .slice none 0 0, .slice none 0 0, .int .i64 0] 60)).heap.size := fun b hb => hb.elim (fun hb => Nat.lt_of_lt_of_le (hN b hb) hb0.size) (fun e => e ▸ z0.lt)
  have HU0 := Lib.hid (hU.below hb0)
  have HZ := Lib.hid (show w.heap.size ≤ w.heap.size + 1 by omega)
  clear hv hU hN hs0
  go_enter Tryz.func115, Tryz.ntmps115
  go_upto_region 1 with fail
  generalize (w.alloc (.cells #[.int .i64 t.kind, .slice L t.labels.length lc, .slice A t.args.length ac] 27)).alloc (.cells #[.int .i64 0, .slice none 0 0, .slice none 0 0, .int .i64 0] 60) = w0 at *
  have HC := Lib.hid (implUniform_any t _ w0 hv0.own (by omega))
  have hpl := p0.lt
  have hzl := z0.lt
  have c0 : w0.cell? ⟨w.heap.size, 0, none⟩ = some (.int .i64 t.kind) := p0.cell 0
  have c1 : w0.cell? ⟨w.heap.size, 1, none⟩ = some (.slice L t.labels.length lc) := p0.cell 1
  have c2 : w0.cell? ⟨w.heap.size, 2, none⟩ = some (.slice A t.args.length ac) := p0.cell 2
  cases h5 : uniformB t
  · rw [h5] at HC
    have HRN := Lib.hid (HR.out.trans (by rw [h5]))
    clear hv0 hN0 h5 hse hval HR
    go_wp2_with fail
    refine HC.out.mono ?_
    rintro e w1 ⟨rfl, hb1⟩
    have HB := Lib.hid (hb0.trans (hb1.mono hb0.size))
    have HU := Lib.hid (HU0.out.below hb1)
    have zz := z0.below hb1 hzl
    clear c0 c1 c2 hb0 hb1 z0 p0 HU0 HZ hpl hzl HC
    have d0 : w1.cell? ⟨w.heap.size + 1, 0, none⟩ = some (.int .i64 0) := zz.cell 0
    have df0 : w1.frozen? ⟨w.heap.size + 1, 0, none⟩ = false := zz.free 0
    have d1 : w1.cell? ⟨w.heap.size + 1, 1, none⟩ = some (.slice none 0 0) := zz.cell 1
    have df1 : w1.frozen? ⟨w.heap.size + 1, 1, none⟩ = false := zz.free 1
    have d2 : w1.cell? ⟨w.heap.size + 1, 2, none⟩ = some (.slice none 0 0) := zz.cell 2
    have df2 : w1.frozen? ⟨w.heap.size + 1, 2, none⟩ = false := zz.free 2
    have d3 : w1.cell? ⟨w.heap.size + 1, 3, none⟩ = some (.int .i64 0) := zz.cell 3
    have df3 : w1.frozen? ⟨w.heap.size + 1, 3, none⟩ = false := zz.free 3
    have e0 : w1.drew.cell? ⟨w.heap.size + 1, 0, none⟩ = some (.int .i64 0) := d0
    have ef0 : w1.drew.frozen? ⟨w.heap.size + 1, 0, none⟩ = false := df0
    have e1 : w1.drew.cell? ⟨w.heap.size + 1, 1, none⟩ = some (.slice none 0 0) := d1
    have ef1 : w1.drew.frozen? ⟨w.heap.size + 1, 1, none⟩ = false := df1
    have e2 : w1.drew.cell? ⟨w.heap.size + 1, 2, none⟩ = some (.slice none 0 0) := d2
    have ef2 : w1.drew.frozen? ⟨w.heap.size + 1, 2, none⟩ = false := df2
    have e3 : w1.drew.cell? ⟨w.heap.size + 1, 3, none⟩ = some (.int .i64 0) := d3
    have ef3 : w1.drew.frozen? ⟨w.heap.size + 1, 3, none⟩ = false := df3
    obtain ⟨_, hu, ua, hua⟩ := HU.out
    subst hua
    have hud : w1.drew.cell? ⟨0, 0, none⟩ = some (.iface 195 (.pointer (some ua))) := hu
    have HF := Lib.hid (typ_none (N := N) (u := (.iface 195 (.pointer (some ua)))) HB.out HRN.out)
    have HG := Lib.hid (fun a b c d => typ_drew (typ_none4 (N := N) (u := (.iface 195 (.pointer (some ua)))) (show w.heap.size ≤ w.heap.size + 1 by omega) HB.out HRN.out a b c d))
    clear zz HU HB HRN
    go_wp2
    go_region
    go_wp2
    first | exact bodyPost_ret (v := .tuple #[.agg #[.int .i64 0, .slice none 0 0, .slice none 0 0, .int .i64 0], .iface 195 (.pointer (some ua))]) (by simp [results, Tryz.results115, go_sem, d0, d1, d2, d3, e0, e1, e2, e3]) rfl HF.out | exact bodyPost_ret (v := .tuple #[.agg #[.int .i64 0, .slice none 0 0, .slice none 0 0, .int .i64 0], .iface 195 (.pointer (some ua))]) (by simp [results, Tryz.results115, go_sem, d0, d1, d2, d3, e0, e1, e2, e3]) rfl (HG.out _ _ _ _)
  · rw [h5] at HC
    have hul := uniform_first h5
    have HR2 := Lib.hid (HR.out.trans (by rw [h5, if_pos rfl, List.getElem?_eq_getElem hul, Option.map_some]))
    clear h5 HR
    go_wp2_with fail
    refine HC.out.mono ?_
    rintro e w1 ⟨rfl, hb1⟩
    have hb1' := hb0.trans (hb1.mono hb0.size)
    have p1 := p0.below hb1 hpl
    have z1 := z0.below hb1 hzl
    have hv1 := hv0.up hb1
    obtain ⟨g, L', lc', A', ac', rfl, hg, x0, x1, x2, hx⟩ := hv1.elem 0 hul
    have hse1 : szTy t.args[0] ≤ 660 := sz_argV hval 0 hul
    simp only [Nat.zero_mul, Nat.zero_add] at x0 x1 x2
    have hlz : t.args.length ≠ 0 := by omega
    have hlI : (0 : Int) < (t.args.length : Int) := by omega
    generalize t.args[0] = te at *
    generalize t.args.length = n at *
    have HF := Lib.hid (fun a b c d => typ_fin (u := u) (r := r) (kd := 5) HZ.out hb1' hx (by omega) (.inr ⟨HR2.out, rfl⟩) a b c d)
    have k0 : w1.cell? ⟨w.heap.size, 0, none⟩ = some (.int .i64 t.kind) := p1.cell 0
    have k1 : w1.cell? ⟨w.heap.size, 1, none⟩ = some (.slice L t.labels.length lc) := p1.cell 1
    have k2 : w1.cell? ⟨w.heap.size, 2, none⟩ = some (.slice (some ⟨g, 0, none⟩) n ac) := p1.cell 2
    have d0 : w1.cell? ⟨w.heap.size + 1, 0, none⟩ = some (.int .i64 0) := z1.cell 0
    have df0 : w1.frozen? ⟨w.heap.size + 1, 0, none⟩ = false := z1.free 0
    have d1 : w1.cell? ⟨w.heap.size + 1, 1, none⟩ = some (.slice none 0 0) := z1.cell 1
    have df1 : w1.frozen? ⟨w.heap.size + 1, 1, none⟩ = false := z1.free 1
    have d2 : w1.cell? ⟨w.heap.size + 1, 2, none⟩ = some (.slice none 0 0) := z1.cell 2
    have df2 : w1.frozen? ⟨w.heap.size + 1, 2, none⟩ = false := z1.free 2
    have d3 : w1.cell? ⟨w.heap.size + 1, 3, none⟩ = some (.int .i64 0) := z1.cell 3
    have df3 : w1.frozen? ⟨w.heap.size + 1, 3, none⟩ = false := z1.free 3
    clear hx hv1 hv0 hval hb0 hb1 hb1' p0 z0 p1 z1 HU0 HZ HC hse hse1 hg hN0 hpl hzl HR2 c0 c1 c2
    go_wp2
    exact bodyPost_ret (v := .tuple #[.agg #[.int .i64 te.kind, .slice L' te.labels.length lc', .slice A' te.args.length ac', .int .i64 5], .nilIface]) (by simp [results, Tryz.results115, go_sem, d0, d1, d2, d3]) rfl (HF.out _ _ _ _)

set_option maxHeartbeats 1000000 in
theorem typPart_any {N : Nat → Prop} {u : Value} {r : Option (Ty × Int)} (t : Ty) (v : Value) (asked : Int) (l : ByteArray) (kd : Int) (w : World) (hN : ∀ b, N b → b < w.heap.size) (hU : UnfitAt w u) (hv : OwnA N w v t) (hval : validB t = true) (hr : r = if t.kind = asked then (partB t l).map (·, kd) else none) :
    Calls Tryz.prog 113 #[v, .int .i64 asked, .string l, .int .i64 kd] w (TypPost N u r w) := by
  have HR := Lib.hid hr
  clear hr
  have hse := szTy_valid hval
  obtain ⟨L, lc, A, ac, rfl⟩ := hv.open
  obtain ⟨hb0, p0, z0, hs0⟩ := boxes2 w 27 60 #[.int .i64 t.kind, .slice L t.labels.length lc, .slice A t.args.length ac] #[.int .i64 0, .slice none 0 0, .slice none 0 0, .int .i64 0]
  have hv0 := (hv.late (w.heap.size + 1) (by omega)).up hb0
  have hN0 : ∀ b, (N b ∨ b = w.heap.size + 1) → b < ((w.alloc (.cells #[.int .i64 t.kind, .slice L t.labels.length lc, .slice A t.args.length ac] 27)).alloc (.cells #[.int .i64 0, .slice none 0 0, .slice none 0 0, .int .i64 0] 60)).heap.size := fun b hb => hb.elim (fun hb => Nat.lt_of_lt_of_le (hN b hb) hb0.size) (fun e => e ▸ z0.lt)
  have HU0 := Lib.hid (hU.below hb0)
  have HZ := Lib.hid (show w.heap.size ≤ w.heap.size + 1 by omega)
  clear hv hU hN hs0
  go_enter Tryz.func113, Tryz.ntmps113
  go_upto_region 1 with fail
  generalize (w.alloc (.cells #[.int .i64 t.kind, .slice L t.labels.length lc, .slice A t.args.length ac] 27)).alloc (.cells #[.int .i64 0, .slice none 0 0, .slice none 0 0, .int .i64 0] 60) = w0 at *
  have HC := Lib.hid (implPart_any t l _ w0 hv0.own (by omega))
  have hpl := p0.lt
  have hzl := z0.lt
  have hps := sz_partB (s := t) (l := l)
  have c0 : w0.cell? ⟨w.heap.size, 0, none⟩ = some (.int .i64 t.kind) := p0.cell 0
  have c1 : w0.cell? ⟨w.heap.size, 1, none⟩ = some (.slice L t.labels.length lc) := p0.cell 1
  have c2 : w0.cell? ⟨w.heap.size, 2, none⟩ = some (.slice A t.args.length ac) := p0.cell 2
  clear hv0 hval
  go_wp2_with fail
  refine HC.out.mono ?_
  rintro e w1 ⟨v2, rfl, hv2, hb1⟩
  generalize hrr : partB t l = rr at *
  clear hrr
  have hv2a := OwnA.of_in (N := fun b => N b ∨ b = w.heap.size + 1) hv2 hN0
  generalize hpt : rr.getD zeroTy = pt at *
  obtain ⟨T1, U1, T2, U2, _, rfl, _⟩ := hv2.open
  have hb2 := (Below.refl w1.heap.size w1).alloc (Nat.le_refl _) (.cells #[.int .i64 pt.kind, .slice T1 pt.labels.length U1, .slice T2 pt.args.length U2] 27)
  have cb1 := hb0.trans (hb1.mono hb0.size)
  have cb2 := cb1.trans (hb2.mono cb1.size)
  have hv2b := hv2a.up hb2
  have zz := (z0.below hb1 hzl).below hb2 (z0.below hb1 hzl).lt
  have pp := (p0.below hb1 hpl).below hb2 (p0.below hb1 hpl).lt
  have HU := Lib.hid ((HU0.out.below hb1).below hb2)
  have HB := Lib.hid cb2
  have nn : Whole1 (w1.alloc (.cells #[.int .i64 pt.kind, .slice T1 pt.labels.length U1, .slice T2 pt.args.length U2] 27)) w1.heap.size 27 #[.int .i64 pt.kind, .slice T1 pt.labels.length U1, .slice T2 pt.args.length U2] := Whole1.new _ _ _
  have k0 : (w1.alloc (.cells #[.int .i64 pt.kind, .slice T1 pt.labels.length U1, .slice T2 pt.args.length U2] 27)).cell? ⟨w.heap.size, 0, none⟩ = some (.int .i64 t.kind) := pp.cell 0
  clear hv2 hv2a hb1 hb2 cb1 cb2 hb0 z0 p0 hpl hzl HU0 HC c0 c1 c2 pp hN0
  by_cases h5 : t.kind = asked
  · have i1 : (t.kind != asked) = false := by simp [h5]
    have HR2 := Lib.hid (HR.out.trans (if_pos h5))
    clear h5 HR
    cases rr with
    | none =>
      have HRN := Lib.hid (HR2.out.trans (rfl : ((none : Option Ty).map (·, kd)) = none))
      simp only [Option.isSome_none]
      clear HR2
      clear hv2b hps HZ hpt nn hse
      have d0 : (w1.alloc (.cells #[.int .i64 pt.kind, .slice T1 pt.labels.length U1, .slice T2 pt.args.length U2] 27)).cell? ⟨w.heap.size + 1, 0, none⟩ = some (.int .i64 0) := zz.cell 0
      have df0 : (w1.alloc (.cells #[.int .i64 pt.kind, .slice T1 pt.labels.length U1, .slice T2 pt.args.length U2] 27)).frozen? ⟨w.heap.size + 1, 0, none⟩ = false := zz.free 0
      have d1 : (w1.alloc (.cells #[.int .i64 pt.kind, .slice T1 pt.labels.length U1, .slice T2 pt.args.length U2] 27)).cell? ⟨w.heap.size + 1, 1, none⟩ = some (.slice none 0 0) := zz.cell 1
      have df1 : (w1.alloc (.cells #[.int .i64 pt.kind, .slice T1 pt.labels.length U1, .slice T2 pt.args.length U2] 27)).frozen? ⟨w.heap.size + 1, 1, none⟩ = false := zz.free 1
      have d2 : (w1.alloc (.cells #[.int .i64 pt.kind, .slice T1 pt.labels.length U1, .slice T2 pt.args.length U2] 27)).cell? ⟨w.heap.size + 1, 2, none⟩ = some (.slice none 0 0) := zz.cell 2
      have df2 : (w1.alloc (.cells #[.int .i64 pt.kind, .slice T1 pt.labels.length U1, .slice T2 pt.args.length U2] 27)).frozen? ⟨w.heap.size + 1, 2, none⟩ = false := zz.free 2
      have d3 : (w1.alloc (.cells #[.int .i64 pt.kind, .slice T1 pt.labels.length U1, .slice T2 pt.args.length U2] 27)).cell? ⟨w.heap.size + 1, 3, none⟩ = some (.int .i64 0) := zz.cell 3
      have df3 : (w1.alloc (.cells #[.int .i64 pt.kind, .slice T1 pt.labels.length U1, .slice T2 pt.args.length U2] 27)).frozen? ⟨w.heap.size + 1, 3, none⟩ = false := zz.free 3
      have e0 : (w1.alloc (.cells #[.int .i64 pt.kind, .slice T1 pt.labels.length U1, .slice T2 pt.args.length U2] 27)).drew.cell? ⟨w.heap.size + 1, 0, none⟩ = some (.int .i64 0) := d0
      have ef0 : (w1.alloc (.cells #[.int .i64 pt.kind, .slice T1 pt.labels.length U1, .slice T2 pt.args.length U2] 27)).drew.frozen? ⟨w.heap.size + 1, 0, none⟩ = false := df0
      have e1 : (w1.alloc (.cells #[.int .i64 pt.kind, .slice T1 pt.labels.length U1, .slice T2 pt.args.length U2] 27)).drew.cell? ⟨w.heap.size + 1, 1, none⟩ = some (.slice none 0 0) := d1
      have ef1 : (w1.alloc (.cells #[.int .i64 pt.kind, .slice T1 pt.labels.length U1, .slice T2 pt.args.length U2] 27)).drew.frozen? ⟨w.heap.size + 1, 1, none⟩ = false := df1
      have e2 : (w1.alloc (.cells #[.int .i64 pt.kind, .slice T1 pt.labels.length U1, .slice T2 pt.args.length U2] 27)).drew.cell? ⟨w.heap.size + 1, 2, none⟩ = some (.slice none 0 0) := d2
      have ef2 : (w1.alloc (.cells #[.int .i64 pt.kind, .slice T1 pt.labels.length U1, .slice T2 pt.args.length U2] 27)).drew.frozen? ⟨w.heap.size + 1, 2, none⟩ = false := df2
      have e3 : (w1.alloc (.cells #[.int .i64 pt.kind, .slice T1 pt.labels.length U1, .slice T2 pt.args.length U2] 27)).drew.cell? ⟨w.heap.size + 1, 3, none⟩ = some (.int .i64 0) := d3
      have ef3 : (w1.alloc (.cells #[.int .i64 pt.kind, .slice T1 pt.labels.length U1, .slice T2 pt.args.length U2] 27)).drew.frozen? ⟨w.heap.size + 1, 3, none⟩ = false := df3
      obtain ⟨_, hu, ua, hua⟩ := HU.out
      subst hua
      have hud : (w1.alloc (.cells #[.int .i64 pt.kind, .slice T1 pt.labels.length U1, .slice T2 pt.args.length U2] 27)).drew.cell? ⟨0, 0, none⟩ = some (.iface 195 (.pointer (some ua))) := hu
      have HF := Lib.hid (typ_none (N := N) (u := (.iface 195 (.pointer (some ua)))) HB.out HRN.out)
      have HG := Lib.hid (fun a b c d => typ_drew (typ_none4 (N := N) (u := (.iface 195 (.pointer (some ua)))) (show w.heap.size ≤ w.heap.size + 1 by omega) HB.out HRN.out a b c d))
      clear zz HU HB HRN
      go_wp2
      go_region
      go_wp2
      first | exact bodyPost_ret (v := .tuple #[.agg #[.int .i64 0, .slice none 0 0, .slice none 0 0, .int .i64 0], .iface 195 (.pointer (some ua))]) (by simp [results, Tryz.results113, go_sem, d0, d1, d2, d3, e0, e1, e2, e3]) rfl HF.out | exact bodyPost_ret (v := .tuple #[.agg #[.int .i64 0, .slice none 0 0, .slice none 0 0, .int .i64 0], .iface 195 (.pointer (some ua))]) (by simp [results, Tryz.results113, go_sem, d0, d1, d2, d3, e0, e1, e2, e3]) rfl (HG.out _ _ _ _)
    | some ra =>
      obtain rfl : ra = pt := hpt
      simp only [Option.isSome_some]
      have HF := Lib.hid (fun a b c d => typ_fin (u := u) (r := r) (kd := kd) HZ.out HB.out hv2b (Nat.le_trans hps (by omega)) (.inr ⟨HR2.out, rfl⟩) a b c d)
      have m0 : (w1.alloc (.cells #[.int .i64 ra.kind, .slice T1 ra.labels.length U1, .slice T2 ra.args.length U2] 27)).cell? ⟨w1.heap.size, 0, none⟩ = some (.int .i64 ra.kind) := nn.cell 0
      have m1 : (w1.alloc (.cells #[.int .i64 ra.kind, .slice T1 ra.labels.length U1, .slice T2 ra.args.length U2] 27)).cell? ⟨w1.heap.size, 1, none⟩ = some (.slice T1 ra.labels.length U1) := nn.cell 1
      have m2 : (w1.alloc (.cells #[.int .i64 ra.kind, .slice T1 ra.labels.length U1, .slice T2 ra.args.length U2] 27)).cell? ⟨w1.heap.size, 2, none⟩ = some (.slice T2 ra.args.length U2) := nn.cell 2
      have d0 : (w1.alloc (.cells #[.int .i64 ra.kind, .slice T1 ra.labels.length U1, .slice T2 ra.args.length U2] 27)).cell? ⟨w.heap.size + 1, 0, none⟩ = some (.int .i64 0) := zz.cell 0
      have df0 : (w1.alloc (.cells #[.int .i64 ra.kind, .slice T1 ra.labels.length U1, .slice T2 ra.args.length U2] 27)).frozen? ⟨w.heap.size + 1, 0, none⟩ = false := zz.free 0
      have d1 : (w1.alloc (.cells #[.int .i64 ra.kind, .slice T1 ra.labels.length U1, .slice T2 ra.args.length U2] 27)).cell? ⟨w.heap.size + 1, 1, none⟩ = some (.slice none 0 0) := zz.cell 1
      have df1 : (w1.alloc (.cells #[.int .i64 ra.kind, .slice T1 ra.labels.length U1, .slice T2 ra.args.length U2] 27)).frozen? ⟨w.heap.size + 1, 1, none⟩ = false := zz.free 1
      have d2 : (w1.alloc (.cells #[.int .i64 ra.kind, .slice T1 ra.labels.length U1, .slice T2 ra.args.length U2] 27)).cell? ⟨w.heap.size + 1, 2, none⟩ = some (.slice none 0 0) := zz.cell 2
      have df2 : (w1.alloc (.cells #[.int .i64 ra.kind, .slice T1 ra.labels.length U1, .slice T2 ra.args.length U2] 27)).frozen? ⟨w.heap.size + 1, 2, none⟩ = false := zz.free 2
      have d3 : (w1.alloc (.cells #[.int .i64 ra.kind, .slice T1 ra.labels.length U1, .slice T2 ra.args.length U2] 27)).cell? ⟨w.heap.size + 1, 3, none⟩ = some (.int .i64 0) := zz.cell 3
      have df3 : (w1.alloc (.cells #[.int .i64 ra.kind, .slice T1 ra.labels.length U1, .slice T2 ra.args.length U2] 27)).frozen? ⟨w.heap.size + 1, 3, none⟩ = false := zz.free 3
      clear hv2b hps HZ nn zz HU HB hse
      go_wp2
      exact bodyPost_ret (v := .tuple #[.agg #[.int .i64 ra.kind, .slice T1 ra.labels.length U1, .slice T2 ra.args.length U2, .int .i64 kd], .nilIface]) (by simp [results, Tryz.results113, go_sem, d0, d1, d2, d3]) rfl (HF.out _ _ _ _)
  · have i1 : (t.kind != asked) = true := by simpa using h5
    have HRN := Lib.hid (HR.out.trans (if_neg h5))
    clear h5 HR
    cases rr with
    | none =>
      simp only [Option.isSome_none]
      clear hv2b hps HZ hpt nn hse
      have d0 : (w1.alloc (.cells #[.int .i64 pt.kind, .slice T1 pt.labels.length U1, .slice T2 pt.args.length U2] 27)).cell? ⟨w.heap.size + 1, 0, none⟩ = some (.int .i64 0) := zz.cell 0
      have df0 : (w1.alloc (.cells #[.int .i64 pt.kind, .slice T1 pt.labels.length U1, .slice T2 pt.args.length U2] 27)).frozen? ⟨w.heap.size + 1, 0, none⟩ = false := zz.free 0
      have d1 : (w1.alloc (.cells #[.int .i64 pt.kind, .slice T1 pt.labels.length U1, .slice T2 pt.args.length U2] 27)).cell? ⟨w.heap.size + 1, 1, none⟩ = some (.slice none 0 0) := zz.cell 1
      have df1 : (w1.alloc (.cells #[.int .i64 pt.kind, .slice T1 pt.labels.length U1, .slice T2 pt.args.length U2] 27)).frozen? ⟨w.heap.size + 1, 1, none⟩ = false := zz.free 1
      have d2 : (w1.alloc (.cells #[.int .i64 pt.kind, .slice T1 pt.labels.length U1, .slice T2 pt.args.length U2] 27)).cell? ⟨w.heap.size + 1, 2, none⟩ = some (.slice none 0 0) := zz.cell 2
      have df2 : (w1.alloc (.cells #[.int .i64 pt.kind, .slice T1 pt.labels.length U1, .slice T2 pt.args.length U2] 27)).frozen? ⟨w.heap.size + 1, 2, none⟩ = false := zz.free 2
      have d3 : (w1.alloc (.cells #[.int .i64 pt.kind, .slice T1 pt.labels.length U1, .slice T2 pt.args.length U2] 27)).cell? ⟨w.heap.size + 1, 3, none⟩ = some (.int .i64 0) := zz.cell 3
      have df3 : (w1.alloc (.cells #[.int .i64 pt.kind, .slice T1 pt.labels.length U1, .slice T2 pt.args.length U2] 27)).frozen? ⟨w.heap.size + 1, 3, none⟩ = false := zz.free 3
      have e0 : (w1.alloc (.cells #[.int .i64 pt.kind, .slice T1 pt.labels.length U1, .slice T2 pt.args.length U2] 27)).drew.cell? ⟨w.heap.size + 1, 0, none⟩ = some (.int .i64 0) := d0
      have ef0 : (w1.alloc (.cells #[.int .i64 pt.kind, .slice T1 pt.labels.length U1, .slice T2 pt.args.length U2] 27)).drew.frozen? ⟨w.heap.size + 1, 0, none⟩ = false := df0
      have e1 : (w1.alloc (.cells #[.int .i64 pt.kind, .slice T1 pt.labels.length U1, .slice T2 pt.args.length U2] 27)).drew.cell? ⟨w.heap.size + 1, 1, none⟩ = some (.slice none 0 0) := d1
      have ef1 : (w1.alloc (.cells #[.int .i64 pt.kind, .slice T1 pt.labels.length U1, .slice T2 pt.args.length U2] 27)).drew.frozen? ⟨w.heap.size + 1, 1, none⟩ = false := df1
      have e2 : (w1.alloc (.cells #[.int .i64 pt.kind, .slice T1 pt.labels.length U1, .slice T2 pt.args.length U2] 27)).drew.cell? ⟨w.heap.size + 1, 2, none⟩ = some (.slice none 0 0) := d2
      have ef2 : (w1.alloc (.cells #[.int .i64 pt.kind, .slice T1 pt.labels.length U1, .slice T2 pt.args.length U2] 27)).drew.frozen? ⟨w.heap.size + 1, 2, none⟩ = false := df2
      have e3 : (w1.alloc (.cells #[.int .i64 pt.kind, .slice T1 pt.labels.length U1, .slice T2 pt.args.length U2] 27)).drew.cell? ⟨w.heap.size + 1, 3, none⟩ = some (.int .i64 0) := d3
      have ef3 : (w1.alloc (.cells #[.int .i64 pt.kind, .slice T1 pt.labels.length U1, .slice T2 pt.args.length U2] 27)).drew.frozen? ⟨w.heap.size + 1, 3, none⟩ = false := df3
      obtain ⟨_, hu, ua, hua⟩ := HU.out
      subst hua
      have hud : (w1.alloc (.cells #[.int .i64 pt.kind, .slice T1 pt.labels.length U1, .slice T2 pt.args.length U2] 27)).drew.cell? ⟨0, 0, none⟩ = some (.iface 195 (.pointer (some ua))) := hu
      have HF := Lib.hid (typ_none (N := N) (u := (.iface 195 (.pointer (some ua)))) HB.out HRN.out)
      have HG := Lib.hid (fun a b c d => typ_drew (typ_none4 (N := N) (u := (.iface 195 (.pointer (some ua)))) (show w.heap.size ≤ w.heap.size + 1 by omega) HB.out HRN.out a b c d))
      clear zz HU HB HRN
      go_wp2
      go_region
      go_wp2
      first | exact bodyPost_ret (v := .tuple #[.agg #[.int .i64 0, .slice none 0 0, .slice none 0 0, .int .i64 0], .iface 195 (.pointer (some ua))]) (by simp [results, Tryz.results113, go_sem, d0, d1, d2, d3, e0, e1, e2, e3]) rfl HF.out | exact bodyPost_ret (v := .tuple #[.agg #[.int .i64 0, .slice none 0 0, .slice none 0 0, .int .i64 0], .iface 195 (.pointer (some ua))]) (by simp [results, Tryz.results113, go_sem, d0, d1, d2, d3, e0, e1, e2, e3]) rfl (HG.out _ _ _ _)
    | some ra =>
      simp only [Option.isSome_some]
      clear hv2b hps HZ hpt nn hse
      have d0 : (w1.alloc (.cells #[.int .i64 pt.kind, .slice T1 pt.labels.length U1, .slice T2 pt.args.length U2] 27)).cell? ⟨w.heap.size + 1, 0, none⟩ = some (.int .i64 0) := zz.cell 0
      have df0 : (w1.alloc (.cells #[.int .i64 pt.kind, .slice T1 pt.labels.length U1, .slice T2 pt.args.length U2] 27)).frozen? ⟨w.heap.size + 1, 0, none⟩ = false := zz.free 0
      have d1 : (w1.alloc (.cells #[.int .i64 pt.kind, .slice T1 pt.labels.length U1, .slice T2 pt.args.length U2] 27)).cell? ⟨w.heap.size + 1, 1, none⟩ = some (.slice none 0 0) := zz.cell 1
      have df1 : (w1.alloc (.cells #[.int .i64 pt.kind, .slice T1 pt.labels.length U1, .slice T2 pt.args.length U2] 27)).frozen? ⟨w.heap.size + 1, 1, none⟩ = false := zz.free 1
      have d2 : (w1.alloc (.cells #[.int .i64 pt.kind, .slice T1 pt.labels.length U1, .slice T2 pt.args.length U2] 27)).cell? ⟨w.heap.size + 1, 2, none⟩ = some (.slice none 0 0) := zz.cell 2
      have df2 : (w1.alloc (.cells #[.int .i64 pt.kind, .slice T1 pt.labels.length U1, .slice T2 pt.args.length U2] 27)).frozen? ⟨w.heap.size + 1, 2, none⟩ = false := zz.free 2
      have d3 : (w1.alloc (.cells #[.int .i64 pt.kind, .slice T1 pt.labels.length U1, .slice T2 pt.args.length U2] 27)).cell? ⟨w.heap.size + 1, 3, none⟩ = some (.int .i64 0) := zz.cell 3
      have df3 : (w1.alloc (.cells #[.int .i64 pt.kind, .slice T1 pt.labels.length U1, .slice T2 pt.args.length U2] 27)).frozen? ⟨w.heap.size + 1, 3, none⟩ = false := zz.free 3
      have e0 : (w1.alloc (.cells #[.int .i64 pt.kind, .slice T1 pt.labels.length U1, .slice T2 pt.args.length U2] 27)).drew.cell? ⟨w.heap.size + 1, 0, none⟩ = some (.int .i64 0) := d0
      have ef0 : (w1.alloc (.cells #[.int .i64 pt.kind, .slice T1 pt.labels.length U1, .slice T2 pt.args.length U2] 27)).drew.frozen? ⟨w.heap.size + 1, 0, none⟩ = false := df0
      have e1 : (w1.alloc (.cells #[.int .i64 pt.kind, .slice T1 pt.labels.length U1, .slice T2 pt.args.length U2] 27)).drew.cell? ⟨w.heap.size + 1, 1, none⟩ = some (.slice none 0 0) := d1
      have ef1 : (w1.alloc (.cells #[.int .i64 pt.kind, .slice T1 pt.labels.length U1, .slice T2 pt.args.length U2] 27)).drew.frozen? ⟨w.heap.size + 1, 1, none⟩ = false := df1
      have e2 : (w1.alloc (.cells #[.int .i64 pt.kind, .slice T1 pt.labels.length U1, .slice T2 pt.args.length U2] 27)).drew.cell? ⟨w.heap.size + 1, 2, none⟩ = some (.slice none 0 0) := d2
      have ef2 : (w1.alloc (.cells #[.int .i64 pt.kind, .slice T1 pt.labels.length U1, .slice T2 pt.args.length U2] 27)).drew.frozen? ⟨w.heap.size + 1, 2, none⟩ = false := df2
      have e3 : (w1.alloc (.cells #[.int .i64 pt.kind, .slice T1 pt.labels.length U1, .slice T2 pt.args.length U2] 27)).drew.cell? ⟨w.heap.size + 1, 3, none⟩ = some (.int .i64 0) := d3
      have ef3 : (w1.alloc (.cells #[.int .i64 pt.kind, .slice T1 pt.labels.length U1, .slice T2 pt.args.length U2] 27)).drew.frozen? ⟨w.heap.size + 1, 3, none⟩ = false := df3
      obtain ⟨_, hu, ua, hua⟩ := HU.out
      subst hua
      have hud : (w1.alloc (.cells #[.int .i64 pt.kind, .slice T1 pt.labels.length U1, .slice T2 pt.args.length U2] 27)).drew.cell? ⟨0, 0, none⟩ = some (.iface 195 (.pointer (some ua))) := hu
      have HF := Lib.hid (typ_none (N := N) (u := (.iface 195 (.pointer (some ua)))) HB.out HRN.out)
      have HG := Lib.hid (fun a b c d => typ_drew (typ_none4 (N := N) (u := (.iface 195 (.pointer (some ua)))) (show w.heap.size ≤ w.heap.size + 1 by omega) HB.out HRN.out a b c d))
      clear zz HU HB HRN
      go_wp2
      go_region
      go_wp2
      first | exact bodyPost_ret (v := .tuple #[.agg #[.int .i64 0, .slice none 0 0, .slice none 0 0, .int .i64 0], .iface 195 (.pointer (some ua))]) (by simp [results, Tryz.results113, go_sem, d0, d1, d2, d3, e0, e1, e2, e3]) rfl HF.out | exact bodyPost_ret (v := .tuple #[.agg #[.int .i64 0, .slice none 0 0, .slice none 0 0, .int .i64 0], .iface 195 (.pointer (some ua))]) (by simp [results, Tryz.results113, go_sem, d0, d1, d2, d3, e0, e1, e2, e3]) rfl (HG.out _ _ _ _)

end Go.Proofs.YthdfidhijmcbdaaGreatDoor
