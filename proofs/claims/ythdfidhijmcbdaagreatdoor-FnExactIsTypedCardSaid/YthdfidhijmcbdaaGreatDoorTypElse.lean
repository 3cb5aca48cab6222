/- impl.typingOfElse. -/
import Derived.Test.YthdfidhijmcbdaaGreatDoorTypTwo
import Derived.Test.YthdfidhijmcbdaaGreatDoorImplEqual
namespace Go.Proofs.YthdfidhijmcbdaaGreatDoor
set_option maxRecDepth 100000
set_option linter.unusedSimpArgs false
open Go.RowKit
attribute [local go_sem ↓] Go.wp_at_zero Go.wp_at_succ

theorem elseO_no1 {f g : Ty → Option (Ty × Int)} {s a : Ty} {one : Int} (h : f s = some (a, one)) (hw : withinB one 4 = false) : elseO f g s = none := by
  simp only [elseO, h, hw, Bool.false_and, Bool.false_eq_true, if_false]
  cases g s <;> rfl
theorem elseO_no2 {f g : Ty → Option (Ty × Int)} {s a : Ty} {one : Int} (h : f s = some (a, one)) (hg : g s = none) : elseO f g s = none := by simp only [elseO, h, hg]
theorem elseO_no3 {f g : Ty → Option (Ty × Int)} {s a b : Ty} {one two : Int} (h : f s = some (a, one)) (hg : g s = some (b, two)) (hw : withinB two 4 = false) : elseO f g s = none := by
  simp only [elseO, h, hg, hw, Bool.false_and, Bool.and_false, Bool.false_eq_true, if_false]
theorem elseO_no4 {f g : Ty → Option (Ty × Int)} {s a b : Ty} {one two : Int} (h : f s = some (a, one)) (hg : g s = some (b, two)) (hw : eqTyB a b = false) : elseO f g s = none := by
  simp only [elseO, h, hg, hw, Bool.and_false, Bool.false_eq_true, if_false]
theorem elseO_yes {f g : Ty → Option (Ty × Int)} {s a b : Ty} {one two : Int} (h : f s = some (a, one)) (hg : g s = some (b, two)) (hw : withinB one 4 = true) (hw2 : withinB two 4 = true) (he : eqTyB a b = true) : elseO f g s = some (a, 4) := by
  simp only [elseO, h, hg, hw, hw2, he, Bool.and_true, if_true]

set_option maxHeartbeats 4000000 in
theorem typElse_any (o1 o2 : Ot) (h1 : TypOne o1) (h2 : TypOne o2) {N : Nat → Prop} {u : Value} {r : Option (Ty × Int)} (s : Ty) (sv v1 v2 : Value) (w : World) (hN : ∀ b, N b → b < w.heap.size) (hU : UnfitAt w u) (hJ : JoinsAt w) (hv : OwnA N w sv s) (ho1 : OtAt w w.heap.size v1 o1) (ho2 : OtAt w w.heap.size v2 o2)
    (hval : validB s = true) (f1 : formOt o1 = true) (f2 : formOt o2 = true) (z1 : szOt o1 ≤ 1048576) (z2 : szOt o2 ≤ 1048576) (hr : r = elseO (typeO o1) (typeO o2) s) :
    Calls Tryz.prog 119 #[sv, v1, v2] w (TypPost N u r w) := by
  obtain ⟨L, lc, A, ac, rfl⟩ := hv.open
  obtain ⟨B1, bc1, rfl, _⟩ := ho1.open
  obtain ⟨B2, bc2, rfl, _⟩ := ho2.open
  obtain ⟨hb0, p0, q0, q0', zz0⟩ := boxes4 w 27 30 30 60 #[.int .i64 s.kind, .slice L s.labels.length lc, .slice A s.args.length ac] #[.int .i64 o1.kind, .string o1.name, .int .i64 o1.num, .slice B1 o1.args.length bc1] #[.int .i64 o2.kind, .string o2.name, .int .i64 o2.num, .slice B2 o2.args.length bc2] #[.int .i64 0, .slice none 0 0, .slice none 0 0, .int .i64 0]
  have hv0 := (hv.late (w.heap.size + 1 + 1 + 1) (by omega)).up hb0
  have ho1' := ho1.up hb0
  have ho2' := ho2.up hb0
  have hN0 : ∀ b, (N b ∨ b = w.heap.size + 1 + 1 + 1) → b < ((((w.alloc (.cells #[.int .i64 s.kind, .slice L s.labels.length lc, .slice A s.args.length ac] 27)).alloc (.cells #[.int .i64 o1.kind, .string o1.name, .int .i64 o1.num, .slice B1 o1.args.length bc1] 30)).alloc (.cells #[.int .i64 o2.kind, .string o2.name, .int .i64 o2.num, .slice B2 o2.args.length bc2] 30)).alloc (.cells #[.int .i64 0, .slice none 0 0, .slice none 0 0, .int .i64 0] 60)).heap.size := fun b hb => hb.elim (fun hb => Nat.lt_of_lt_of_le (hN b hb) hb0.size) (fun e => e ▸ zz0.lt)
  have HU0 := Lib.hid (hU.below hb0)
  have HJ0 := Lib.hid (hJ.below hb0)
  obtain ⟨hug, huc, ua, rfl⟩ := hU
  obtain ⟨r1, hr1⟩ : ∃ x, x = typeO o1 s := ⟨_, rfl⟩
  have HC1 := Lib.hid (h1 (fun b => N b ∨ b = w.heap.size + 1 + 1 + 1) _ r1 s _ _ _ hN0 HU0.out HJ0.out hv0 ho1' hval f1 z1 hr1)
  have HR := Lib.hid hr
  have hsv := szTy_valid hval
  have HN0 := Lib.hid hN0
  have HVAL := Lib.hid hval
  have HV0 := Lib.hid hv0
  have HR1 := Lib.hid hr1
  clear hN0 hval hv0 hv hN hr hr1 hJ hug huc ho1 ho2 ho1' f1 z1 h1
  go_enter Tryz.func119, Tryz.ntmps119
  go_wp2_with fail
  generalize (((w.alloc (.cells #[.int .i64 s.kind, .slice L s.labels.length lc, .slice A s.args.length ac] 27)).alloc (.cells #[.int .i64 o1.kind, .string o1.name, .int .i64 o1.num, .slice B1 o1.args.length bc1] 30)).alloc (.cells #[.int .i64 o2.kind, .string o2.name, .int .i64 o2.num, .slice B2 o2.args.length bc2] 30)).alloc (.cells #[.int .i64 0, .slice none 0 0, .slice none 0 0, .int .i64 0] 60) = w0 at *
  refine HC1.out.mono ?_
  rintro e w1 ⟨L1, lc1, A1, ac1, t1, k1, x1, rfl, hv1, hb1, hs1, hor⟩
  clear HC1
  have hx1 := (Below.refl w1.heap.size w1).alloc (Nat.le_refl _) (.cells #[.int .i64 t1.kind, .slice L1 t1.labels.length lc1, .slice A1 t1.args.length ac1, .int .i64 k1] 60)
  have hc1 := hb1
  have hd1 := hc1.trans (hx1.mono hc1.size)
  have hv1x := hv1.up hx1
  have n1 : Whole1 (w1.alloc (.cells #[.int .i64 t1.kind, .slice L1 t1.labels.length lc1, .slice A1 t1.args.length ac1, .int .i64 k1] 60)) w1.heap.size 60 #[.int .i64 t1.kind, .slice L1 t1.labels.length lc1, .slice A1 t1.args.length ac1, .int .i64 k1] := Whole1.new _ _ _
  have zzx1 := zz0.below hd1 zz0.lt
  have HB1 := Lib.hid (hb0.trans (hd1.mono hb0.size))
  have HUU1 := Lib.hid (HU0.out.below hd1)
  have HJJ1 := Lib.hid (HJ0.out.below hd1)
  go_upto_region 2 with fail
  generalize (w1.alloc (.cells #[.int .i64 t1.kind, .slice L1 t1.labels.length lc1, .slice A1 t1.args.length ac1, .int .i64 k1] 60)) = W1 at *
  have HN1 := Lib.hid n1
  have HD1 := Lib.hid hd1
  have HS1 := Lib.hid hs1
  have HV1 := Lib.hid hv1x
  have HZ1 := Lib.hid zzx1
  have HZ0 := Lib.hid zz0
  have HB0 := Lib.hid hb0
  have HP0 := Lib.hid p0
  have HQ0 := Lib.hid q0'
  have HO2 := Lib.hid ho2'
  clear hd1 hs1 hv1x zzx1 zz0 hb0 p0 q0 q0' ho2' hb1 hx1 hc1 hv1 n1
  rcases hor with ⟨rn, rfl⟩ | ⟨rs, rfl⟩
  · have HRN := Lib.hid (HR.out.trans (elseO_none (HR1.out.symm.trans rn)))
    have d0 : W1.cell? ⟨w.heap.size + 1 + 1 + 1, 0, none⟩ = some (.int .i64 0) := HZ1.out.cell 0
    have df0 : W1.frozen? ⟨w.heap.size + 1 + 1 + 1, 0, none⟩ = false := HZ1.out.free 0
    have d1 : W1.cell? ⟨w.heap.size + 1 + 1 + 1, 1, none⟩ = some (.slice none 0 0) := HZ1.out.cell 1
    have df1 : W1.frozen? ⟨w.heap.size + 1 + 1 + 1, 1, none⟩ = false := HZ1.out.free 1
    have d2 : W1.cell? ⟨w.heap.size + 1 + 1 + 1, 2, none⟩ = some (.slice none 0 0) := HZ1.out.cell 2
    have df2 : W1.frozen? ⟨w.heap.size + 1 + 1 + 1, 2, none⟩ = false := HZ1.out.free 2
    have d3 : W1.cell? ⟨w.heap.size + 1 + 1 + 1, 3, none⟩ = some (.int .i64 0) := HZ1.out.cell 3
    have df3 : W1.frozen? ⟨w.heap.size + 1 + 1 + 1, 3, none⟩ = false := HZ1.out.free 3
    have e0 : W1.drew.cell? ⟨w.heap.size + 1 + 1 + 1, 0, none⟩ = some (.int .i64 0) := d0
    have ef0 : W1.drew.frozen? ⟨w.heap.size + 1 + 1 + 1, 0, none⟩ = false := df0
    have e1 : W1.drew.cell? ⟨w.heap.size + 1 + 1 + 1, 1, none⟩ = some (.slice none 0 0) := d1
    have ef1 : W1.drew.frozen? ⟨w.heap.size + 1 + 1 + 1, 1, none⟩ = false := df1
    have e2 : W1.drew.cell? ⟨w.heap.size + 1 + 1 + 1, 2, none⟩ = some (.slice none 0 0) := d2
    have ef2 : W1.drew.frozen? ⟨w.heap.size + 1 + 1 + 1, 2, none⟩ = false := df2
    have e3 : W1.drew.cell? ⟨w.heap.size + 1 + 1 + 1, 3, none⟩ = some (.int .i64 0) := d3
    have ef3 : W1.drew.frozen? ⟨w.heap.size + 1 + 1 + 1, 3, none⟩ = false := df3
    have hu0 : W1.cell? ⟨0, 0, none⟩ = some (.iface 195 (.pointer (some ua))) := HUU1.out.2.1
    have hud : W1.drew.cell? ⟨0, 0, none⟩ = some (.iface 195 (.pointer (some ua))) := hu0
    have HF := Lib.hid (typ_none (N := N) (u := (.iface 195 (.pointer (some ua)))) HB1.out HRN.out)
    have HG := Lib.hid (fun a b c d => typ_drew ((typ_none4 (N := N) (u := (.iface 195 (.pointer (some ua)))) (show w.heap.size ≤ w.heap.size + 1 + 1 + 1 by omega) HB1.out HRN.out a b c d)))
    clear rn
    go_wp2
    go_region
    go_wp2
    first | exact bodyPost_ret (v := .tuple #[.agg #[.int .i64 0, .slice none 0 0, .slice none 0 0, .int .i64 0], .iface 195 (.pointer (some ua))]) (by simp [results, Tryz.results119, go_sem, d0, d1, d2, d3, e0, e1, e2, e3]) rfl HF.out | exact bodyPost_ret (v := .tuple #[.agg #[.int .i64 0, .slice none 0 0, .slice none 0 0, .int .i64 0], .iface 195 (.pointer (some ua))]) (by simp [results, Tryz.results119, go_sem, d0, d1, d2, d3, e0, e1, e2, e3]) rfl (HG.out _ _ _ _)
  · have HRS := Lib.hid (HR1.out.symm.trans rs)
    have HW := Lib.hid (implIsWithin_any k1 4 W1 HJJ1.out)
    obtain ⟨r2, hr2⟩ : ∃ x, x = typeO o2 s := ⟨_, rfl⟩
    have HR2 := Lib.hid hr2
    clear hr2 rs
    have m0 : W1.cell? ⟨w1.heap.size, 0, none⟩ = some (.int .i64 t1.kind) := HN1.out.cell 0
    have m1 : W1.cell? ⟨w1.heap.size, 1, none⟩ = some (.slice L1 t1.labels.length lc1) := HN1.out.cell 1
    have m2 : W1.cell? ⟨w1.heap.size, 2, none⟩ = some (.slice A1 t1.args.length ac1) := HN1.out.cell 2
    have m3 : W1.cell? ⟨w1.heap.size, 3, none⟩ = some (.int .i64 k1) := HN1.out.cell 3
    cases hw1 : withinB k1 4
    · rw [hw1] at HW
      have HRN := Lib.hid (HR.out.trans (elseO_no1 HRS.out hw1))
      clear hw1
      go_wp2_with fail
      refine HW.out.mono ?_
      rintro e w3 ⟨rfl, hb3⟩
      have HU3 := Lib.hid (HUU1.out.below hb3)
      have HB3 := Lib.hid (HB1.out.trans (hb3.mono HB1.out.size))
      have HZ3 := Lib.hid (HZ1.out.below hb3 HZ1.out.lt)
      clear hb3 m0 m1 m2 m3
      have d0 : w3.cell? ⟨w.heap.size + 1 + 1 + 1, 0, none⟩ = some (.int .i64 0) := HZ3.out.cell 0
      have df0 : w3.frozen? ⟨w.heap.size + 1 + 1 + 1, 0, none⟩ = false := HZ3.out.free 0
      have d1 : w3.cell? ⟨w.heap.size + 1 + 1 + 1, 1, none⟩ = some (.slice none 0 0) := HZ3.out.cell 1
      have df1 : w3.frozen? ⟨w.heap.size + 1 + 1 + 1, 1, none⟩ = false := HZ3.out.free 1
      have d2 : w3.cell? ⟨w.heap.size + 1 + 1 + 1, 2, none⟩ = some (.slice none 0 0) := HZ3.out.cell 2
      have df2 : w3.frozen? ⟨w.heap.size + 1 + 1 + 1, 2, none⟩ = false := HZ3.out.free 2
      have d3 : w3.cell? ⟨w.heap.size + 1 + 1 + 1, 3, none⟩ = some (.int .i64 0) := HZ3.out.cell 3
      have df3 : w3.frozen? ⟨w.heap.size + 1 + 1 + 1, 3, none⟩ = false := HZ3.out.free 3
      have e0 : w3.drew.cell? ⟨w.heap.size + 1 + 1 + 1, 0, none⟩ = some (.int .i64 0) := d0
      have ef0 : w3.drew.frozen? ⟨w.heap.size + 1 + 1 + 1, 0, none⟩ = false := df0
      have e1 : w3.drew.cell? ⟨w.heap.size + 1 + 1 + 1, 1, none⟩ = some (.slice none 0 0) := d1
      have ef1 : w3.drew.frozen? ⟨w.heap.size + 1 + 1 + 1, 1, none⟩ = false := df1
      have e2 : w3.drew.cell? ⟨w.heap.size + 1 + 1 + 1, 2, none⟩ = some (.slice none 0 0) := d2
      have ef2 : w3.drew.frozen? ⟨w.heap.size + 1 + 1 + 1, 2, none⟩ = false := df2
      have e3 : w3.drew.cell? ⟨w.heap.size + 1 + 1 + 1, 3, none⟩ = some (.int .i64 0) := d3
      have ef3 : w3.drew.frozen? ⟨w.heap.size + 1 + 1 + 1, 3, none⟩ = false := df3
      have hu0 : w3.cell? ⟨0, 0, none⟩ = some (.iface 195 (.pointer (some ua))) := HU3.out.2.1
      have hud : w3.drew.cell? ⟨0, 0, none⟩ = some (.iface 195 (.pointer (some ua))) := hu0
      have HF := Lib.hid (typ_none (N := N) (u := (.iface 195 (.pointer (some ua)))) HB3.out HRN.out)
      have HG := Lib.hid (fun a b c d => typ_drew ((typ_none4 (N := N) (u := (.iface 195 (.pointer (some ua)))) (show w.heap.size ≤ w.heap.size + 1 + 1 + 1 by omega) HB3.out HRN.out a b c d)))
      go_wp2
      go_region
      go_wp2
      first | exact bodyPost_ret (v := .tuple #[.agg #[.int .i64 0, .slice none 0 0, .slice none 0 0, .int .i64 0], .iface 195 (.pointer (some ua))]) (by simp [results, Tryz.results119, go_sem, d0, d1, d2, d3, e0, e1, e2, e3]) rfl HF.out | exact bodyPost_ret (v := .tuple #[.agg #[.int .i64 0, .slice none 0 0, .slice none 0 0, .int .i64 0], .iface 195 (.pointer (some ua))]) (by simp [results, Tryz.results119, go_sem, d0, d1, d2, d3, e0, e1, e2, e3]) rfl (HG.out _ _ _ _)
    · rw [hw1] at HW
      have HW1 := Lib.hid hw1
      clear hw1
      go_wp2_with fail
      refine HW.out.mono ?_
      rintro e w3 ⟨rfl, hb3⟩
      have HD3 := Lib.hid (HD1.out.trans (hb3.mono HD1.out.size))
      have HU3 := Lib.hid (HUU1.out.below hb3)
      have HJ3 := Lib.hid (HJJ1.out.below hb3)
      have HN3 := Lib.hid (HN1.out.below hb3 HN1.out.lt)
      have HV3 := Lib.hid (HV1.out.up hb3)
      have HC2 := Lib.hid (h2 (fun b => N b ∨ b = w.heap.size + 1 + 1 + 1) _ r2 s _ _ w3 (fun b hb => Nat.lt_of_lt_of_le (HN0.out b hb) HD3.out.size) HU3.out HJ3.out (HV0.out.up HD3.out) (HO2.out.up HD3.out) HVAL.out f2 z2 HR2.out)
      clear hb3 m0 m1 m2 m3 HW
      have sp0 : w3.cell? ⟨w.heap.size, 0, none⟩ = some (.int .i64 s.kind) := (HP0.out.below HD3.out HP0.out.lt).cell 0
      have sp1 : w3.cell? ⟨w.heap.size, 1, none⟩ = some (.slice L s.labels.length lc) := (HP0.out.below HD3.out HP0.out.lt).cell 1
      have sp2 : w3.cell? ⟨w.heap.size, 2, none⟩ = some (.slice A s.args.length ac) := (HP0.out.below HD3.out HP0.out.lt).cell 2
      have qo0 : w3.cell? ⟨w.heap.size + 1 + 1, 0, none⟩ = some (.int .i64 o2.kind) := (HQ0.out.below HD3.out HQ0.out.lt).cell 0
      have qo1 : w3.cell? ⟨w.heap.size + 1 + 1, 1, none⟩ = some (.string o2.name) := (HQ0.out.below HD3.out HQ0.out.lt).cell 1
      have qo2 : w3.cell? ⟨w.heap.size + 1 + 1, 2, none⟩ = some (.int .i64 o2.num) := (HQ0.out.below HD3.out HQ0.out.lt).cell 2
      have qo3 : w3.cell? ⟨w.heap.size + 1 + 1, 3, none⟩ = some (.slice B2 o2.args.length bc2) := (HQ0.out.below HD3.out HQ0.out.lt).cell 3
      go_wp2_with fail
      refine HC2.out.mono ?_
      rintro e w2 ⟨L2, lc2, A2, ac2, t2, k2, x2, rfl, hv2, hb2, hs2, hor2⟩
      have hx2 := (Below.refl w2.heap.size w2).alloc (Nat.le_refl _) (.cells #[.int .i64 t2.kind, .slice L2 t2.labels.length lc2, .slice A2 t2.args.length ac2, .int .i64 k2] 60)
      have hc2 := HD3.out.trans (hb2.mono HD3.out.size)
      have HD4 := Lib.hid (hc2.trans (hx2.mono hc2.size))
      have HV4 := Lib.hid (hv2.up hx2)
      have HV5 := Lib.hid ((HV3.out.up hb2).up hx2)
      have HN4 := Lib.hid (show Whole1 (w2.alloc (.cells #[.int .i64 t2.kind, .slice L2 t2.labels.length lc2, .slice A2 t2.args.length ac2, .int .i64 k2] 60)) w2.heap.size 60 #[.int .i64 t2.kind, .slice L2 t2.labels.length lc2, .slice A2 t2.args.length ac2, .int .i64 k2] from Whole1.new _ _ _)
      have HN5 := Lib.hid ((HN3.out.below hb2 HN3.out.lt).below hx2 (HN3.out.below hb2 HN3.out.lt).lt)
      clear sp0 sp1 sp2 qo0 qo1 qo2 qo3 HC2 hx2 hc2 hv2 hb2
      go_upto_region 5 with fail
      generalize (w2.alloc (.cells #[.int .i64 t2.kind, .slice L2 t2.labels.length lc2, .slice A2 t2.args.length ac2, .int .i64 k2] 60)) = W4 at *
      have HU4 := Lib.hid (HU0.out.below HD4.out)
      have HJ4 := Lib.hid (HJ0.out.below HD4.out)
      have HB4 := Lib.hid (HB0.out.trans (HD4.out.mono HB0.out.size))
      have HZ4 := Lib.hid (HZ0.out.below HD4.out HZ0.out.lt)
      have HS2 := Lib.hid hs2
      clear hs2
      rcases hor2 with ⟨rn, rfl⟩ | ⟨rs2, rfl⟩
      · have HRN := Lib.hid (HR.out.trans (elseO_no2 HRS.out (HR2.out.symm.trans rn)))
        have d0 : W4.cell? ⟨w.heap.size + 1 + 1 + 1, 0, none⟩ = some (.int .i64 0) := HZ4.out.cell 0
        have df0 : W4.frozen? ⟨w.heap.size + 1 + 1 + 1, 0, none⟩ = false := HZ4.out.free 0
        have d1 : W4.cell? ⟨w.heap.size + 1 + 1 + 1, 1, none⟩ = some (.slice none 0 0) := HZ4.out.cell 1
        have df1 : W4.frozen? ⟨w.heap.size + 1 + 1 + 1, 1, none⟩ = false := HZ4.out.free 1
        have d2 : W4.cell? ⟨w.heap.size + 1 + 1 + 1, 2, none⟩ = some (.slice none 0 0) := HZ4.out.cell 2
        have df2 : W4.frozen? ⟨w.heap.size + 1 + 1 + 1, 2, none⟩ = false := HZ4.out.free 2
        have d3 : W4.cell? ⟨w.heap.size + 1 + 1 + 1, 3, none⟩ = some (.int .i64 0) := HZ4.out.cell 3
        have df3 : W4.frozen? ⟨w.heap.size + 1 + 1 + 1, 3, none⟩ = false := HZ4.out.free 3
        have e0 : W4.drew.cell? ⟨w.heap.size + 1 + 1 + 1, 0, none⟩ = some (.int .i64 0) := d0
        have ef0 : W4.drew.frozen? ⟨w.heap.size + 1 + 1 + 1, 0, none⟩ = false := df0
        have e1 : W4.drew.cell? ⟨w.heap.size + 1 + 1 + 1, 1, none⟩ = some (.slice none 0 0) := d1
        have ef1 : W4.drew.frozen? ⟨w.heap.size + 1 + 1 + 1, 1, none⟩ = false := df1
        have e2 : W4.drew.cell? ⟨w.heap.size + 1 + 1 + 1, 2, none⟩ = some (.slice none 0 0) := d2
        have ef2 : W4.drew.frozen? ⟨w.heap.size + 1 + 1 + 1, 2, none⟩ = false := df2
        have e3 : W4.drew.cell? ⟨w.heap.size + 1 + 1 + 1, 3, none⟩ = some (.int .i64 0) := d3
        have ef3 : W4.drew.frozen? ⟨w.heap.size + 1 + 1 + 1, 3, none⟩ = false := df3
        have hu0 : W4.cell? ⟨0, 0, none⟩ = some (.iface 195 (.pointer (some ua))) := HU4.out.2.1
        have hud : W4.drew.cell? ⟨0, 0, none⟩ = some (.iface 195 (.pointer (some ua))) := hu0
        have HF := Lib.hid (typ_none (N := N) (u := (.iface 195 (.pointer (some ua)))) HB4.out HRN.out)
        have HG := Lib.hid (fun a b c d => typ_drew ((typ_none4 (N := N) (u := (.iface 195 (.pointer (some ua)))) (show w.heap.size ≤ w.heap.size + 1 + 1 + 1 by omega) HB4.out HRN.out a b c d)))
        clear rn
        go_wp2
        go_region
        go_wp2
        first | exact bodyPost_ret (v := .tuple #[.agg #[.int .i64 0, .slice none 0 0, .slice none 0 0, .int .i64 0], .iface 195 (.pointer (some ua))]) (by simp [results, Tryz.results119, go_sem, d0, d1, d2, d3, e0, e1, e2, e3]) rfl HF.out | exact bodyPost_ret (v := .tuple #[.agg #[.int .i64 0, .slice none 0 0, .slice none 0 0, .int .i64 0], .iface 195 (.pointer (some ua))]) (by simp [results, Tryz.results119, go_sem, d0, d1, d2, d3, e0, e1, e2, e3]) rfl (HG.out _ _ _ _)
      · have HRT := Lib.hid (HR2.out.symm.trans rs2)
        have HW2 := Lib.hid (implIsWithin_any k2 4 W4 HJ4.out)
        clear rs2
        have m0 : W4.cell? ⟨w2.heap.size, 0, none⟩ = some (.int .i64 t2.kind) := HN4.out.cell 0
        have m1 : W4.cell? ⟨w2.heap.size, 1, none⟩ = some (.slice L2 t2.labels.length lc2) := HN4.out.cell 1
        have m2 : W4.cell? ⟨w2.heap.size, 2, none⟩ = some (.slice A2 t2.args.length ac2) := HN4.out.cell 2
        have m3 : W4.cell? ⟨w2.heap.size, 3, none⟩ = some (.int .i64 k2) := HN4.out.cell 3
        cases hw2 : withinB k2 4
        · rw [hw2] at HW2
          have HRN := Lib.hid (HR.out.trans (elseO_no3 HRS.out HRT.out hw2))
          clear hw2
          go_wp2_with fail
          refine HW2.out.mono ?_
          rintro e w5 ⟨rfl, hb5⟩
          have HU5 := Lib.hid (HU4.out.below hb5)
          have HB5 := Lib.hid (HB4.out.trans (hb5.mono HB4.out.size))
          have HZ5 := Lib.hid (HZ4.out.below hb5 HZ4.out.lt)
          clear hb5 m0 m1 m2 m3
          have d0 : w5.cell? ⟨w.heap.size + 1 + 1 + 1, 0, none⟩ = some (.int .i64 0) := HZ5.out.cell 0
          have df0 : w5.frozen? ⟨w.heap.size + 1 + 1 + 1, 0, none⟩ = false := HZ5.out.free 0
          have d1 : w5.cell? ⟨w.heap.size + 1 + 1 + 1, 1, none⟩ = some (.slice none 0 0) := HZ5.out.cell 1
          have df1 : w5.frozen? ⟨w.heap.size + 1 + 1 + 1, 1, none⟩ = false := HZ5.out.free 1
          have d2 : w5.cell? ⟨w.heap.size + 1 + 1 + 1, 2, none⟩ = some (.slice none 0 0) := HZ5.out.cell 2
          have df2 : w5.frozen? ⟨w.heap.size + 1 + 1 + 1, 2, none⟩ = false := HZ5.out.free 2
          have d3 : w5.cell? ⟨w.heap.size + 1 + 1 + 1, 3, none⟩ = some (.int .i64 0) := HZ5.out.cell 3
          have df3 : w5.frozen? ⟨w.heap.size + 1 + 1 + 1, 3, none⟩ = false := HZ5.out.free 3
          have e0 : w5.drew.cell? ⟨w.heap.size + 1 + 1 + 1, 0, none⟩ = some (.int .i64 0) := d0
          have ef0 : w5.drew.frozen? ⟨w.heap.size + 1 + 1 + 1, 0, none⟩ = false := df0
          have e1 : w5.drew.cell? ⟨w.heap.size + 1 + 1 + 1, 1, none⟩ = some (.slice none 0 0) := d1
          have ef1 : w5.drew.frozen? ⟨w.heap.size + 1 + 1 + 1, 1, none⟩ = false := df1
          have e2 : w5.drew.cell? ⟨w.heap.size + 1 + 1 + 1, 2, none⟩ = some (.slice none 0 0) := d2
          have ef2 : w5.drew.frozen? ⟨w.heap.size + 1 + 1 + 1, 2, none⟩ = false := df2
          have e3 : w5.drew.cell? ⟨w.heap.size + 1 + 1 + 1, 3, none⟩ = some (.int .i64 0) := d3
          have ef3 : w5.drew.frozen? ⟨w.heap.size + 1 + 1 + 1, 3, none⟩ = false := df3
          have hu0 : w5.cell? ⟨0, 0, none⟩ = some (.iface 195 (.pointer (some ua))) := HU5.out.2.1
          have hud : w5.drew.cell? ⟨0, 0, none⟩ = some (.iface 195 (.pointer (some ua))) := hu0
          have HF := Lib.hid (typ_none (N := N) (u := (.iface 195 (.pointer (some ua)))) HB5.out HRN.out)
          have HG := Lib.hid (fun a b c d => typ_drew ((typ_none4 (N := N) (u := (.iface 195 (.pointer (some ua)))) (show w.heap.size ≤ w.heap.size + 1 + 1 + 1 by omega) HB5.out HRN.out a b c d)))
          go_wp2
          go_region
          go_wp2
          first | exact bodyPost_ret (v := .tuple #[.agg #[.int .i64 0, .slice none 0 0, .slice none 0 0, .int .i64 0], .iface 195 (.pointer (some ua))]) (by simp [results, Tryz.results119, go_sem, d0, d1, d2, d3, e0, e1, e2, e3]) rfl HF.out | exact bodyPost_ret (v := .tuple #[.agg #[.int .i64 0, .slice none 0 0, .slice none 0 0, .int .i64 0], .iface 195 (.pointer (some ua))]) (by simp [results, Tryz.results119, go_sem, d0, d1, d2, d3, e0, e1, e2, e3]) rfl (HG.out _ _ _ _)
        · rw [hw2] at HW2
          have HWW := Lib.hid hw2
          clear hw2
          go_wp2_with fail
          refine HW2.out.mono ?_
          rintro e w5 ⟨rfl, hb5⟩
          have HU5 := Lib.hid (HU4.out.below hb5)
          have HB5 := Lib.hid (HB4.out.trans (hb5.mono HB4.out.size))
          have HZ5 := Lib.hid (HZ4.out.below hb5 HZ4.out.lt)
          have HV6 := Lib.hid (HV4.out.up hb5)
          have HV7 := Lib.hid (HV5.out.up hb5)
          have HN6 := Lib.hid (HN4.out.below hb5 HN4.out.lt)
          have HN7 := Lib.hid (HN5.out.below hb5 HN5.out.lt)
          have HE := Lib.hid (implEqual_any t1 t2 _ _ w5 HV7.out.own HV6.out.own (by have := size_le_sz t1; have := HS1.out; omega))
          clear hb5 m0 m1 m2 m3
          have m0 : w5.cell? ⟨w2.heap.size, 0, none⟩ = some (.int .i64 t2.kind) := HN6.out.cell 0
          have m1 : w5.cell? ⟨w2.heap.size, 1, none⟩ = some (.slice L2 t2.labels.length lc2) := HN6.out.cell 1
          have m2 : w5.cell? ⟨w2.heap.size, 2, none⟩ = some (.slice A2 t2.args.length ac2) := HN6.out.cell 2
          have m3 : w5.cell? ⟨w2.heap.size, 3, none⟩ = some (.int .i64 k2) := HN6.out.cell 3
          have mm0 : w5.cell? ⟨w1.heap.size, 0, none⟩ = some (.int .i64 t1.kind) := HN7.out.cell 0
          have mm1 : w5.cell? ⟨w1.heap.size, 1, none⟩ = some (.slice L1 t1.labels.length lc1) := HN7.out.cell 1
          have mm2 : w5.cell? ⟨w1.heap.size, 2, none⟩ = some (.slice A1 t1.args.length ac1) := HN7.out.cell 2
          have mm3 : w5.cell? ⟨w1.heap.size, 3, none⟩ = some (.int .i64 k1) := HN7.out.cell 3
          cases he : eqTyB t1 t2
          · rw [he] at HE
            have HRN := Lib.hid (HR.out.trans (elseO_no4 HRS.out HRT.out he))
            clear he
            go_wp2_with fail
            refine HE.out.mono ?_
            rintro e w6 ⟨rfl, hb6⟩
            have HU6 := Lib.hid (HU5.out.below hb6)
            have HB6 := Lib.hid (HB5.out.trans (hb6.mono HB5.out.size))
            have HZ6 := Lib.hid (HZ5.out.below hb6 HZ5.out.lt)
            clear hb6 m0 m1 m2 m3 mm0 mm1 mm2 mm3
            have d0 : w6.cell? ⟨w.heap.size + 1 + 1 + 1, 0, none⟩ = some (.int .i64 0) := HZ6.out.cell 0
            have df0 : w6.frozen? ⟨w.heap.size + 1 + 1 + 1, 0, none⟩ = false := HZ6.out.free 0
            have d1 : w6.cell? ⟨w.heap.size + 1 + 1 + 1, 1, none⟩ = some (.slice none 0 0) := HZ6.out.cell 1
            have df1 : w6.frozen? ⟨w.heap.size + 1 + 1 + 1, 1, none⟩ = false := HZ6.out.free 1
            have d2 : w6.cell? ⟨w.heap.size + 1 + 1 + 1, 2, none⟩ = some (.slice none 0 0) := HZ6.out.cell 2
            have df2 : w6.frozen? ⟨w.heap.size + 1 + 1 + 1, 2, none⟩ = false := HZ6.out.free 2
            have d3 : w6.cell? ⟨w.heap.size + 1 + 1 + 1, 3, none⟩ = some (.int .i64 0) := HZ6.out.cell 3
            have df3 : w6.frozen? ⟨w.heap.size + 1 + 1 + 1, 3, none⟩ = false := HZ6.out.free 3
            have e0 : w6.drew.cell? ⟨w.heap.size + 1 + 1 + 1, 0, none⟩ = some (.int .i64 0) := d0
            have ef0 : w6.drew.frozen? ⟨w.heap.size + 1 + 1 + 1, 0, none⟩ = false := df0
            have e1 : w6.drew.cell? ⟨w.heap.size + 1 + 1 + 1, 1, none⟩ = some (.slice none 0 0) := d1
            have ef1 : w6.drew.frozen? ⟨w.heap.size + 1 + 1 + 1, 1, none⟩ = false := df1
            have e2 : w6.drew.cell? ⟨w.heap.size + 1 + 1 + 1, 2, none⟩ = some (.slice none 0 0) := d2
            have ef2 : w6.drew.frozen? ⟨w.heap.size + 1 + 1 + 1, 2, none⟩ = false := df2
            have e3 : w6.drew.cell? ⟨w.heap.size + 1 + 1 + 1, 3, none⟩ = some (.int .i64 0) := d3
            have ef3 : w6.drew.frozen? ⟨w.heap.size + 1 + 1 + 1, 3, none⟩ = false := df3
            have hu0 : w6.cell? ⟨0, 0, none⟩ = some (.iface 195 (.pointer (some ua))) := HU6.out.2.1
            have hud : w6.drew.cell? ⟨0, 0, none⟩ = some (.iface 195 (.pointer (some ua))) := hu0
            have HF := Lib.hid (typ_none (N := N) (u := (.iface 195 (.pointer (some ua)))) HB6.out HRN.out)
            have HG := Lib.hid (fun a b c d => typ_drew ((typ_none4 (N := N) (u := (.iface 195 (.pointer (some ua)))) (show w.heap.size ≤ w.heap.size + 1 + 1 + 1 by omega) HB6.out HRN.out a b c d)))
            go_wp2
            go_region
            go_wp2
            first | exact bodyPost_ret (v := .tuple #[.agg #[.int .i64 0, .slice none 0 0, .slice none 0 0, .int .i64 0], .iface 195 (.pointer (some ua))]) (by simp [results, Tryz.results119, go_sem, d0, d1, d2, d3, e0, e1, e2, e3]) rfl HF.out | exact bodyPost_ret (v := .tuple #[.agg #[.int .i64 0, .slice none 0 0, .slice none 0 0, .int .i64 0], .iface 195 (.pointer (some ua))]) (by simp [results, Tryz.results119, go_sem, d0, d1, d2, d3, e0, e1, e2, e3]) rfl (HG.out _ _ _ _)
          · rw [he] at HE
            have HRY := Lib.hid (HR.out.trans (elseO_yes HRS.out HRT.out HW1.out HWW.out he))
            clear he
            go_wp2_with fail
            refine HE.out.mono ?_
            rintro e w6 ⟨rfl, hb6⟩
            have HU6 := Lib.hid (HU5.out.below hb6)
            have HB6 := Lib.hid (HB5.out.trans (hb6.mono HB5.out.size))
            have HZ6 := Lib.hid (HZ5.out.below hb6 HZ5.out.lt)
            have HV8 := Lib.hid (HV7.out.up hb6)
            have HN8 := Lib.hid (HN7.out.below hb6 HN7.out.lt)
            clear hb6 m0 m1 m2 m3 mm0 mm1 mm2 mm3
            have HF := Lib.hid (fun a b c d => typ_fin (r := r) (u := (.iface 195 (.pointer (some ua)))) (kd := 4) (show w.heap.size ≤ w.heap.size + 1 + 1 + 1 by omega) HB6.out HV8.out HS1.out (.inr ⟨HRY.out, rfl⟩) a b c d)
            have d0 : w6.cell? ⟨w.heap.size + 1 + 1 + 1, 0, none⟩ = some (.int .i64 0) := HZ6.out.cell 0
            have df0 : w6.frozen? ⟨w.heap.size + 1 + 1 + 1, 0, none⟩ = false := HZ6.out.free 0
            have d1 : w6.cell? ⟨w.heap.size + 1 + 1 + 1, 1, none⟩ = some (.slice none 0 0) := HZ6.out.cell 1
            have df1 : w6.frozen? ⟨w.heap.size + 1 + 1 + 1, 1, none⟩ = false := HZ6.out.free 1
            have d2 : w6.cell? ⟨w.heap.size + 1 + 1 + 1, 2, none⟩ = some (.slice none 0 0) := HZ6.out.cell 2
            have df2 : w6.frozen? ⟨w.heap.size + 1 + 1 + 1, 2, none⟩ = false := HZ6.out.free 2
            have d3 : w6.cell? ⟨w.heap.size + 1 + 1 + 1, 3, none⟩ = some (.int .i64 0) := HZ6.out.cell 3
            have df3 : w6.frozen? ⟨w.heap.size + 1 + 1 + 1, 3, none⟩ = false := HZ6.out.free 3
            have m0 : w6.cell? ⟨w1.heap.size, 0, none⟩ = some (.int .i64 t1.kind) := HN8.out.cell 0
            have m1 : w6.cell? ⟨w1.heap.size, 1, none⟩ = some (.slice L1 t1.labels.length lc1) := HN8.out.cell 1
            have m2 : w6.cell? ⟨w1.heap.size, 2, none⟩ = some (.slice A1 t1.args.length ac1) := HN8.out.cell 2
            have m3 : w6.cell? ⟨w1.heap.size, 3, none⟩ = some (.int .i64 k1) := HN8.out.cell 3
            go_wp2
            exact bodyPost_ret (v := .tuple #[.agg #[.int .i64 t1.kind, .slice L1 t1.labels.length lc1, .slice A1 t1.args.length ac1, .int .i64 4], .nilIface]) (by simp [results, Tryz.results119, go_sem, d0, d1, d2, d3]) rfl (HF.out _ _ _ _)

end Go.Proofs.YthdfidhijmcbdaaGreatDoor
