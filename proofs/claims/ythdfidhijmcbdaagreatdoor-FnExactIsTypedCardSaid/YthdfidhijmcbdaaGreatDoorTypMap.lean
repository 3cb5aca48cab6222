/- impl.typingOfMap. -/
import Derived.Test.YthdfidhijmcbdaaGreatDoorTypTwo
import Derived.Test.YthdfidhijmcbdaaGreatDoorSpecOType
import Derived.Deep.CutRange
import Derived.Deep.DeepCutAuto
namespace Go.Proofs.YthdfidhijmcbdaaGreatDoor
set_option maxRecDepth 100000
set_option linter.unusedSimpArgs false
open Go.RowKit
attribute [local go_sem ↓] Go.wp_at_zero Go.wp_at_succ

/-- What a call of typingOf leaves in a new box. -/
structure GotT (N : Nat → Prop) (u : Value) (r : Option (Ty × Int)) (b wx : World) (z : Nat) (L : Option Addr) (lc : Nat) (A : Option Addr) (ac : Nat) (t : Ty) (kd : Int) (x : Value) : Prop where
  box : Whole1 wx z 60 #[.int .i64 t.kind, .slice L t.labels.length lc, .slice A t.args.length ac, .int .i64 kd]
  tree : OwnA N wx (.agg #[.int .i64 t.kind, .slice L t.labels.length lc, .slice A t.args.length ac]) t
  below : Below b.heap.size b wx
  small : szTy t ≤ 2000
  err : (r = none ∧ x = u) ∨ (r = some (t, kd) ∧ x = .nilIface)
theorem GotT.late {N : Nat → Prop} {u : Value} {r : Option (Ty × Int)} {b w1 : World} {lc ac : Nat} {L A : Option Addr} {t : Ty} {kd : Int} {x : Value} (hv : OwnA N w1 (.agg #[.int .i64 t.kind, .slice L t.labels.length lc, .slice A t.args.length ac]) t) (hb : Below b.heap.size b w1) (hs : szTy t ≤ 2000) (he : (r = none ∧ x = u) ∨ (r = some (t, kd) ∧ x = .nilIface)) :
    GotT N u r b (w1.alloc (.cells #[.int .i64 t.kind, .slice L t.labels.length lc, .slice A t.args.length ac, .int .i64 kd] 60)) w1.heap.size L lc A ac t kd x := by
  have ha := (Below.refl w1.heap.size w1).alloc (Nat.le_refl _) (.cells #[.int .i64 t.kind, .slice L t.labels.length lc, .slice A t.args.length ac, .int .i64 kd] 60)
  exact ⟨Whole1.new _ _ _, hv.up ha, hb.trans (ha.mono hb.size), hs, he⟩
theorem GotT.early {N : Nat → Prop} {u : Value} {r : Option (Ty × Int)} {b w1 : World} {g lc ac : Nat} {L A : Option Addr} {t : Ty} {kd : Int} {x : Value} (hv : OwnA (fun q => N q ∨ q = g) w1 (.agg #[.int .i64 t.kind, .slice L t.labels.length lc, .slice A t.args.length ac]) t) (hz : Whole1 w1 g 60 #[.int .i64 0, .slice none 0 0, .slice none 0 0, .int .i64 0]) (hg : b.heap.size ≤ g) (hb : Below b.heap.size b w1) (hs : szTy t ≤ 2000) (he : (r = none ∧ x = u) ∨ (r = some (t, kd) ∧ x = .nilIface)) :
    GotT N u r b ((((w1.setCell ⟨g, 0, none⟩ (.int .i64 t.kind)).setCell ⟨g, 1, none⟩ (.slice L t.labels.length lc)).setCell ⟨g, 2, none⟩ (.slice A t.args.length ac)).setCell ⟨g, 3, none⟩ (.int .i64 kd)) g L lc A ac t kd x :=
  ⟨(((hz.set 0 (.int .i64 t.kind)).set 1 (.slice L t.labels.length lc)).set 2 (.slice A t.args.length ac)).set 3 (.int .i64 kd), hv.set _ _ _ _, set4_below hg hb _ _ _ _, hs, he⟩

theorem mapO_no1 {f : Ty → Option (Ty × Int)} {sl : List ByteArray} {te : Ty} (h : f te = none) : mapO f (.mk 5 sl [te]) = none := by
  have h5 : (Ty.mk 5 sl [te]).kind = 5 := rfl
  simp only [mapO, h5, if_true, Ty.args, List.getElem?_cons_zero, h]
theorem mapO_no2 {f : Ty → Option (Ty × Int)} {sl : List ByteArray} {te t : Ty} {kd : Int} (h : f te = some (t, kd)) (hk : kd ≠ 1) : mapO f (.mk 5 sl [te]) = none := by
  have h5 : (Ty.mk 5 sl [te]).kind = 5 := rfl
  simp only [mapO, h5, if_true, Ty.args, List.getElem?_cons_zero, h, if_neg hk]
theorem mapO_yes {f : Ty → Option (Ty × Int)} {sl : List ByteArray} {te t : Ty} (h : f te = some (t, 1)) : mapO f (.mk 5 sl [te]) = some (.mk 5 [] [t], 1) := by
  have h5 : (Ty.mk 5 sl [te]).kind = 5 := rfl
  simp only [mapO, h5, if_true, Ty.args, List.getElem?_cons_zero, h]

set_option maxHeartbeats 4000000 in
theorem typMap_any (o : Ot) (h1 : TypOne o) {N : Nat → Prop} {u : Value} {r : Option (Ty × Int)} (s : Ty) (sv ov : Value) (w : World) (hN : ∀ b, N b → b < w.heap.size) (hU : UnfitAt w u) (hJ : JoinsAt w) (hv : OwnA N w sv s) (ho : OtAt w w.heap.size ov o) (hval : validB s = true) (hf : formOt o = true) (hz : szOt o ≤ 1048576) (hr : r = mapO (typeO o) s) :
    Calls Tryz.prog 117 #[sv, ov] w (TypPost N u r w) := by
  obtain ⟨L, lc, A, ac, rfl⟩ := hv.open
  obtain ⟨B, bc, rfl, _⟩ := ho.open
  obtain ⟨hb0, p0, q0, zz0, hs0⟩ := boxes3 w 27 30 60 #[.int .i64 s.kind, .slice L s.labels.length lc, .slice A s.args.length ac] #[.int .i64 o.kind, .string o.name, .int .i64 o.num, .slice B o.args.length bc] #[.int .i64 0, .slice none 0 0, .slice none 0 0, .int .i64 0]
  have hv0 := (hv.late (w.heap.size + 1 + 1) (by omega)).up hb0
  have ho0 := ho.up hb0
  have hN0 : ∀ b, (N b ∨ b = w.heap.size + 1 + 1) → b < (((w.alloc (.cells #[.int .i64 s.kind, .slice L s.labels.length lc, .slice A s.args.length ac] 27)).alloc (.cells #[.int .i64 o.kind, .string o.name, .int .i64 o.num, .slice B o.args.length bc] 30)).alloc (.cells #[.int .i64 0, .slice none 0 0, .slice none 0 0, .int .i64 0] 60)).heap.size := fun b hb => hb.elim (fun hb => Nat.lt_of_lt_of_le (hN b hb) hb0.size) (fun e => e ▸ zz0.lt)
  have HU0 := Lib.hid (hU.below hb0)
  have HJ0 := Lib.hid (hJ.below hb0)
  obtain ⟨hug, huc, ua, rfl⟩ := hU
  have HR := Lib.hid hr
  have HB0 := Lib.hid hb0
  have HZ0 := Lib.hid zz0
  have HP0 := Lib.hid p0
  have HQ0 := Lib.hid q0
  have HN0 := Lib.hid hN0
  have HV0 := Lib.hid hv0
  have HO0 := Lib.hid ho0
  clear hv hN hr hJ hug huc ho hb0 zz0 p0 q0 hv0 ho0 hN0 hs0
  go_enter Tryz.func117, Tryz.ntmps117
  go_upto_region 1 with fail
  generalize ((w.alloc (.cells #[.int .i64 s.kind, .slice L s.labels.length lc, .slice A s.args.length ac] 27)).alloc (.cells #[.int .i64 o.kind, .string o.name, .int .i64 o.num, .slice B o.args.length bc] 30)).alloc (.cells #[.int .i64 0, .slice none 0 0, .slice none 0 0, .int .i64 0] 60) = w0 at *
  have sp0 : w0.cell? ⟨w.heap.size, 0, none⟩ = some (.int .i64 s.kind) := HP0.out.cell 0
  have sp1 : w0.cell? ⟨w.heap.size, 1, none⟩ = some (.slice L s.labels.length lc) := HP0.out.cell 1
  have sp2 : w0.cell? ⟨w.heap.size, 2, none⟩ = some (.slice A s.args.length ac) := HP0.out.cell 2
  by_cases h5 : s.kind = 5
  · have i1 : (s.kind != 5) = false := by simp [h5]
    obtain ⟨k, sl, sa⟩ := s
    simp only [Ty.kind, Ty.labels, Ty.args] at *
    subst h5
    obtain ⟨te, rfl⟩ := list_one hval
    obtain ⟨g, L', lc', A', ac', rfl, hg, x0, x1, x2, hx⟩ := HV0.out.elem 0 (by simp [Ty.args])
    have hvte : validB te = true := valid_elem hval
    have y0 : w0.cell? ⟨g, 0, none⟩ = some (.int .i64 te.kind) := x0
    have y1 : w0.cell? ⟨g, 1, none⟩ = some (.slice L' te.labels.length lc') := x1
    have y2 : w0.cell? ⟨g, 2, none⟩ = some (.slice A' te.args.length ac') := x2
    have hy : OwnA (fun b => N b ∨ b = w.heap.size + 1 + 1) w0 (.agg #[.int .i64 te.kind, .slice L' te.labels.length lc', .slice A' te.args.length ac']) te := hx
    obtain ⟨r1, hr1⟩ : ∃ x, x = typeO o te := ⟨_, rfl⟩
    have HR1 := Lib.hid hr1
    have hqb := HQ0.out.lt
    have hpb := HP0.out.lt
    have HTa : Hid (Calls Tryz.prog 68 #[.agg #[.int .i64 te.kind, .slice L' te.labels.length lc', .slice A' te.args.length ac'], .agg #[.int .i64 o.kind, .string o.name, .int .i64 o.num, .slice B o.args.length bc]] w0.drew (TypPost (fun b => N b ∨ b = w.heap.size + 1 + 1) (.iface 195 (.pointer (some ua))) r1 w0.drew)) := Lib.hid (h1 _ _ r1 te _ _ _ HN0.out (HU0.out.below (Below.refl _ _).drew) (HJ0.out.below (Below.refl _ _).drew) hy.drew (HO0.out.up (Below.refl _ _).drew) hvte hf hz hr1)
    have HBB := Lib.hid (((Below.refl w0.heap.size w0).alloc (Nat.le_refl _) (.cells #[.int .i64 0, .slice none 0 0, .slice none 0 0, .int .i64 0] 60)).drew)
    have HTb : Hid (Calls Tryz.prog 68 #[.agg #[.int .i64 te.kind, .slice L' te.labels.length lc', .slice A' te.args.length ac'], .agg #[.int .i64 o.kind, .string o.name, .int .i64 o.num, .slice B o.args.length bc]] (w0.alloc (.cells #[.int .i64 0, .slice none 0 0, .slice none 0 0, .int .i64 0] 60)).drew (TypPost (fun b => (N b ∨ b = w.heap.size + 1 + 1) ∨ b = w0.heap.size) (.iface 195 (.pointer (some ua))) r1 (w0.alloc (.cells #[.int .i64 0, .slice none 0 0, .slice none 0 0, .int .i64 0] 60)).drew)) := Lib.hid (h1 _ _ r1 te _ _ _ (fun b hb => hb.elim (fun hb => Nat.lt_of_lt_of_le (HN0.out b hb) HBB.out.size) (fun e => by subst e; simp)) (HU0.out.below HBB.out) (HJ0.out.below HBB.out) ((hy.late w0.heap.size (Nat.le_refl _)).up HBB.out) (HO0.out.up HBB.out) hvte hf hz hr1)
    clear x0 x1 x2 hx hr1 hy hvte h1 hf hz hval
    go_upto_region 3 with fail
    have bA := (Below.refl w0.heap.size w0).drew
    have bB := ((Below.refl w0.heap.size w0).alloc (Nat.le_refl _) (.cells #[.int .i64 0, .slice none 0 0, .slice none 0 0, .int .i64 0] 60)).drew
    have zB : Whole1 (w0.alloc (.cells #[.int .i64 0, .slice none 0 0, .slice none 0 0, .int .i64 0] 60)).drew w0.heap.size 60 #[.int .i64 0, .slice none 0 0, .slice none 0 0, .int .i64 0] := Whole1.new w0 60 #[.int .i64 0, .slice none 0 0, .slice none 0 0, .int .i64 0]
    have fa0 : w0.drew.cell? ⟨w.heap.size, 2, none⟩ = some (.slice (some ⟨g, 0, none⟩) 1 ac) := (HP0.out.cell 2)
    have fg0 : (w0.alloc (.cells #[.int .i64 0, .slice none 0 0, .slice none 0 0, .int .i64 0] 60)).drew.cell? ⟨w.heap.size, 2, none⟩ = some (.slice (some ⟨g, 0, none⟩) 1 ac) := (bB.cell (p := ⟨w.heap.size, 2, none⟩) hpb).trans (HP0.out.cell 2)
    have fa1 : w0.drew.cell? ⟨g, 0, none⟩ = some (.int .i64 te.kind) := (y0)
    have fg1 : (w0.alloc (.cells #[.int .i64 0, .slice none 0 0, .slice none 0 0, .int .i64 0] 60)).drew.cell? ⟨g, 0, none⟩ = some (.int .i64 te.kind) := (bB.cell (p := ⟨g, 0, none⟩) hg).trans (y0)
    have fa2 : w0.drew.cell? ⟨g, 1, none⟩ = some (.slice L' te.labels.length lc') := (y1)
    have fg2 : (w0.alloc (.cells #[.int .i64 0, .slice none 0 0, .slice none 0 0, .int .i64 0] 60)).drew.cell? ⟨g, 1, none⟩ = some (.slice L' te.labels.length lc') := (bB.cell (p := ⟨g, 1, none⟩) hg).trans (y1)
    have fa3 : w0.drew.cell? ⟨g, 2, none⟩ = some (.slice A' te.args.length ac') := (y2)
    have fg3 : (w0.alloc (.cells #[.int .i64 0, .slice none 0 0, .slice none 0 0, .int .i64 0] 60)).drew.cell? ⟨g, 2, none⟩ = some (.slice A' te.args.length ac') := (bB.cell (p := ⟨g, 2, none⟩) hg).trans (y2)
    have fa4 : w0.drew.cell? ⟨w.heap.size + 1, 0, none⟩ = some (.int .i64 o.kind) := (HQ0.out.cell 0)
    have fg4 : (w0.alloc (.cells #[.int .i64 0, .slice none 0 0, .slice none 0 0, .int .i64 0] 60)).drew.cell? ⟨w.heap.size + 1, 0, none⟩ = some (.int .i64 o.kind) := (bB.cell (p := ⟨w.heap.size + 1, 0, none⟩) hqb).trans (HQ0.out.cell 0)
    have fa5 : w0.drew.cell? ⟨w.heap.size + 1, 1, none⟩ = some (.string o.name) := (HQ0.out.cell 1)
    have fg5 : (w0.alloc (.cells #[.int .i64 0, .slice none 0 0, .slice none 0 0, .int .i64 0] 60)).drew.cell? ⟨w.heap.size + 1, 1, none⟩ = some (.string o.name) := (bB.cell (p := ⟨w.heap.size + 1, 1, none⟩) hqb).trans (HQ0.out.cell 1)
    have fa6 : w0.drew.cell? ⟨w.heap.size + 1, 2, none⟩ = some (.int .i64 o.num) := (HQ0.out.cell 2)
    have fg6 : (w0.alloc (.cells #[.int .i64 0, .slice none 0 0, .slice none 0 0, .int .i64 0] 60)).drew.cell? ⟨w.heap.size + 1, 2, none⟩ = some (.int .i64 o.num) := (bB.cell (p := ⟨w.heap.size + 1, 2, none⟩) hqb).trans (HQ0.out.cell 2)
    have fa7 : w0.drew.cell? ⟨w.heap.size + 1, 3, none⟩ = some (.slice B o.args.length bc) := (HQ0.out.cell 3)
    have fg7 : (w0.alloc (.cells #[.int .i64 0, .slice none 0 0, .slice none 0 0, .int .i64 0] 60)).drew.cell? ⟨w.heap.size + 1, 3, none⟩ = some (.slice B o.args.length bc) := (bB.cell (p := ⟨w.heap.size + 1, 3, none⟩) hqb).trans (HQ0.out.cell 3)
    go_cut [6, 7] from 14 to 23 (fun p x wx => ∃ z L1 lc1 A1 ac1 t1 k1, p = .pointer (some ⟨z, 0, none⟩) ∧ GotT (fun b => N b ∨ b = w.heap.size + 1 + 1) (.iface 195 (.pointer (some ua))) r1 w0 wx z L1 lc1 A1 ac1 t1 k1 x)
    case first =>
      go_region_held3 (fun x' : World => x'.cell? ⟨w.heap.size, 2, none⟩ = some (.slice (some ⟨g, 0, none⟩) 1 ac) ∧ x'.cell? ⟨g, 0, none⟩ = some (.int .i64 te.kind) ∧ x'.cell? ⟨g, 1, none⟩ = some (.slice L' te.labels.length lc') ∧ x'.cell? ⟨g, 2, none⟩ = some (.slice A' te.args.length ac') ∧ x'.cell? ⟨w.heap.size + 1, 0, none⟩ = some (.int .i64 o.kind) ∧ x'.cell? ⟨w.heap.size + 1, 1, none⟩ = some (.string o.name) ∧ x'.cell? ⟨w.heap.size + 1, 2, none⟩ = some (.int .i64 o.num) ∧ x'.cell? ⟨w.heap.size + 1, 3, none⟩ = some (.slice B o.args.length bc)) (first | with_reducible exact ⟨fa0, fa1, fa2, fa3, fa4, fa5, fa6, fa7⟩ | with_reducible exact ⟨fg0, fg1, fg2, fg3, fg4, fg5, fg6, fg7⟩ | with_reducible exact ⟨fk0, fk1, fk2, fk3, fk4, fk5, fk6, fk7⟩ | with_reducible exact ⟨fl0, fl1, fl2, fl3, fl4, fl5, fl6, fl7⟩ | with_reducible exact ⟨fm0, fm1, fm2, fm3, fm4, fm5, fm6, fm7⟩ | with_reducible exact ⟨fn0, fn1, fn2, fn3, fn4, fn5, fn6, fn7⟩ | go_keep) (first | (go_simp; go_at_call 68; (first | (with_reducible refine HTa.out.mono ?_) | (with_reducible refine HTb.out.mono ?_)); rintro e w1 ⟨L1, lc1, A1, ac1, t1, k1, x1, rfl, hv2, hb1', hs1, hor⟩; have HV2 := Lib.hid hv2; have HOR := Lib.hid hor; have HSS := Lib.hid hs1; have hb1 : Below w0.heap.size w0 w1 := (by first | exact bA.trans (hb1'.mono bA.size) | exact bB.trans (hb1'.mono bB.size)); (try have HZ1 := Lib.hid (zB.below hb1' zB.lt)); (try have zq0 : w1.cell? ⟨w0.heap.size, 0, none⟩ = some (.int .i64 0) := HZ1.out.cell 0); (try have zr0 : w1.frozen? ⟨w0.heap.size, 0, none⟩ = false := HZ1.out.free 0); (try have zq1 : w1.cell? ⟨w0.heap.size, 1, none⟩ = some (.slice none 0 0) := HZ1.out.cell 1); (try have zr1 : w1.frozen? ⟨w0.heap.size, 1, none⟩ = false := HZ1.out.free 1); (try have zq2 : w1.cell? ⟨w0.heap.size, 2, none⟩ = some (.slice none 0 0) := HZ1.out.cell 2); (try have zr2 : w1.frozen? ⟨w0.heap.size, 2, none⟩ = false := HZ1.out.free 2); (try have zq3 : w1.cell? ⟨w0.heap.size, 3, none⟩ = some (.int .i64 0) := HZ1.out.cell 3); (try have zr3 : w1.frozen? ⟨w0.heap.size, 3, none⟩ = false := HZ1.out.free 3); have fk0 : w1.cell? ⟨w.heap.size, 2, none⟩ = some (.slice (some ⟨g, 0, none⟩) 1 ac) := (hb1.cell (p := ⟨w.heap.size, 2, none⟩) hpb).trans (HP0.out.cell 2); have fk1 : w1.cell? ⟨g, 0, none⟩ = some (.int .i64 te.kind) := (hb1.cell (p := ⟨g, 0, none⟩) hg).trans (y0); have fk2 : w1.cell? ⟨g, 1, none⟩ = some (.slice L' te.labels.length lc') := (hb1.cell (p := ⟨g, 1, none⟩) hg).trans (y1); have fk3 : w1.cell? ⟨g, 2, none⟩ = some (.slice A' te.args.length ac') := (hb1.cell (p := ⟨g, 2, none⟩) hg).trans (y2); have fk4 : w1.cell? ⟨w.heap.size + 1, 0, none⟩ = some (.int .i64 o.kind) := (hb1.cell (p := ⟨w.heap.size + 1, 0, none⟩) hqb).trans (HQ0.out.cell 0); have fk5 : w1.cell? ⟨w.heap.size + 1, 1, none⟩ = some (.string o.name) := (hb1.cell (p := ⟨w.heap.size + 1, 1, none⟩) hqb).trans (HQ0.out.cell 1); have fk6 : w1.cell? ⟨w.heap.size + 1, 2, none⟩ = some (.int .i64 o.num) := (hb1.cell (p := ⟨w.heap.size + 1, 2, none⟩) hqb).trans (HQ0.out.cell 2); have fk7 : w1.cell? ⟨w.heap.size + 1, 3, none⟩ = some (.slice B o.args.length bc) := (hb1.cell (p := ⟨w.heap.size + 1, 3, none⟩) hqb).trans (HQ0.out.cell 3); have hb2 := hb1.trans (((Below.refl w1.heap.size w1).alloc (Nat.le_refl _) (.cells #[.int .i64 0, .slice none 0 0, .slice none 0 0, .int .i64 0] 60)).mono hb1.size); have hb3 := hb1.trans (((Below.refl w1.heap.size w1).alloc (Nat.le_refl _) (.cells #[.int .i64 t1.kind, .slice L1 t1.labels.length lc1, .slice A1 t1.args.length ac1, .int .i64 k1] 60)).mono hb1.size); have fl0 : (w1.alloc (.cells #[.int .i64 0, .slice none 0 0, .slice none 0 0, .int .i64 0] 60)).cell? ⟨w.heap.size, 2, none⟩ = some (.slice (some ⟨g, 0, none⟩) 1 ac) := (hb2.cell (p := ⟨w.heap.size, 2, none⟩) hpb).trans (HP0.out.cell 2); have fm0 : (w1.alloc (.cells #[.int .i64 t1.kind, .slice L1 t1.labels.length lc1, .slice A1 t1.args.length ac1, .int .i64 k1] 60)).cell? ⟨w.heap.size, 2, none⟩ = some (.slice (some ⟨g, 0, none⟩) 1 ac) := (hb3.cell (p := ⟨w.heap.size, 2, none⟩) hpb).trans (HP0.out.cell 2); have fn0 : ((((w1.setCell ⟨w0.heap.size, 0, none⟩ (.int .i64 t1.kind)).setCell ⟨w0.heap.size, 1, none⟩ (.slice L1 t1.labels.length lc1)).setCell ⟨w0.heap.size, 2, none⟩ (.slice A1 t1.args.length ac1)).setCell ⟨w0.heap.size, 3, none⟩ (.int .i64 k1)).cell? ⟨w.heap.size, 2, none⟩ = some (.slice (some ⟨g, 0, none⟩) 1 ac) := typ_far _ _ _ _ _ fk0 (Ne.symm (Nat.ne_of_lt hpb)); have fl1 : (w1.alloc (.cells #[.int .i64 0, .slice none 0 0, .slice none 0 0, .int .i64 0] 60)).cell? ⟨g, 0, none⟩ = some (.int .i64 te.kind) := (hb2.cell (p := ⟨g, 0, none⟩) hg).trans (y0); have fm1 : (w1.alloc (.cells #[.int .i64 t1.kind, .slice L1 t1.labels.length lc1, .slice A1 t1.args.length ac1, .int .i64 k1] 60)).cell? ⟨g, 0, none⟩ = some (.int .i64 te.kind) := (hb3.cell (p := ⟨g, 0, none⟩) hg).trans (y0); have fn1 : ((((w1.setCell ⟨w0.heap.size, 0, none⟩ (.int .i64 t1.kind)).setCell ⟨w0.heap.size, 1, none⟩ (.slice L1 t1.labels.length lc1)).setCell ⟨w0.heap.size, 2, none⟩ (.slice A1 t1.args.length ac1)).setCell ⟨w0.heap.size, 3, none⟩ (.int .i64 k1)).cell? ⟨g, 0, none⟩ = some (.int .i64 te.kind) := typ_far _ _ _ _ _ fk1 (Ne.symm (Nat.ne_of_lt hg)); have fl2 : (w1.alloc (.cells #[.int .i64 0, .slice none 0 0, .slice none 0 0, .int .i64 0] 60)).cell? ⟨g, 1, none⟩ = some (.slice L' te.labels.length lc') := (hb2.cell (p := ⟨g, 1, none⟩) hg).trans (y1); have fm2 : (w1.alloc (.cells #[.int .i64 t1.kind, .slice L1 t1.labels.length lc1, .slice A1 t1.args.length ac1, .int .i64 k1] 60)).cell? ⟨g, 1, none⟩ = some (.slice L' te.labels.length lc') := (hb3.cell (p := ⟨g, 1, none⟩) hg).trans (y1); have fn2 : ((((w1.setCell ⟨w0.heap.size, 0, none⟩ (.int .i64 t1.kind)).setCell ⟨w0.heap.size, 1, none⟩ (.slice L1 t1.labels.length lc1)).setCell ⟨w0.heap.size, 2, none⟩ (.slice A1 t1.args.length ac1)).setCell ⟨w0.heap.size, 3, none⟩ (.int .i64 k1)).cell? ⟨g, 1, none⟩ = some (.slice L' te.labels.length lc') := typ_far _ _ _ _ _ fk2 (Ne.symm (Nat.ne_of_lt hg)); have fl3 : (w1.alloc (.cells #[.int .i64 0, .slice none 0 0, .slice none 0 0, .int .i64 0] 60)).cell? ⟨g, 2, none⟩ = some (.slice A' te.args.length ac') := (hb2.cell (p := ⟨g, 2, none⟩) hg).trans (y2); have fm3 : (w1.alloc (.cells #[.int .i64 t1.kind, .slice L1 t1.labels.length lc1, .slice A1 t1.args.length ac1, .int .i64 k1] 60)).cell? ⟨g, 2, none⟩ = some (.slice A' te.args.length ac') := (hb3.cell (p := ⟨g, 2, none⟩) hg).trans (y2); have fn3 : ((((w1.setCell ⟨w0.heap.size, 0, none⟩ (.int .i64 t1.kind)).setCell ⟨w0.heap.size, 1, none⟩ (.slice L1 t1.labels.length lc1)).setCell ⟨w0.heap.size, 2, none⟩ (.slice A1 t1.args.length ac1)).setCell ⟨w0.heap.size, 3, none⟩ (.int .i64 k1)).cell? ⟨g, 2, none⟩ = some (.slice A' te.args.length ac') := typ_far _ _ _ _ _ fk3 (Ne.symm (Nat.ne_of_lt hg)); have fl4 : (w1.alloc (.cells #[.int .i64 0, .slice none 0 0, .slice none 0 0, .int .i64 0] 60)).cell? ⟨w.heap.size + 1, 0, none⟩ = some (.int .i64 o.kind) := (hb2.cell (p := ⟨w.heap.size + 1, 0, none⟩) hqb).trans (HQ0.out.cell 0); have fm4 : (w1.alloc (.cells #[.int .i64 t1.kind, .slice L1 t1.labels.length lc1, .slice A1 t1.args.length ac1, .int .i64 k1] 60)).cell? ⟨w.heap.size + 1, 0, none⟩ = some (.int .i64 o.kind) := (hb3.cell (p := ⟨w.heap.size + 1, 0, none⟩) hqb).trans (HQ0.out.cell 0); have fn4 : ((((w1.setCell ⟨w0.heap.size, 0, none⟩ (.int .i64 t1.kind)).setCell ⟨w0.heap.size, 1, none⟩ (.slice L1 t1.labels.length lc1)).setCell ⟨w0.heap.size, 2, none⟩ (.slice A1 t1.args.length ac1)).setCell ⟨w0.heap.size, 3, none⟩ (.int .i64 k1)).cell? ⟨w.heap.size + 1, 0, none⟩ = some (.int .i64 o.kind) := typ_far _ _ _ _ _ fk4 (Ne.symm (Nat.ne_of_lt hqb)); have fl5 : (w1.alloc (.cells #[.int .i64 0, .slice none 0 0, .slice none 0 0, .int .i64 0] 60)).cell? ⟨w.heap.size + 1, 1, none⟩ = some (.string o.name) := (hb2.cell (p := ⟨w.heap.size + 1, 1, none⟩) hqb).trans (HQ0.out.cell 1); have fm5 : (w1.alloc (.cells #[.int .i64 t1.kind, .slice L1 t1.labels.length lc1, .slice A1 t1.args.length ac1, .int .i64 k1] 60)).cell? ⟨w.heap.size + 1, 1, none⟩ = some (.string o.name) := (hb3.cell (p := ⟨w.heap.size + 1, 1, none⟩) hqb).trans (HQ0.out.cell 1); have fn5 : ((((w1.setCell ⟨w0.heap.size, 0, none⟩ (.int .i64 t1.kind)).setCell ⟨w0.heap.size, 1, none⟩ (.slice L1 t1.labels.length lc1)).setCell ⟨w0.heap.size, 2, none⟩ (.slice A1 t1.args.length ac1)).setCell ⟨w0.heap.size, 3, none⟩ (.int .i64 k1)).cell? ⟨w.heap.size + 1, 1, none⟩ = some (.string o.name) := typ_far _ _ _ _ _ fk5 (Ne.symm (Nat.ne_of_lt hqb)); have fl6 : (w1.alloc (.cells #[.int .i64 0, .slice none 0 0, .slice none 0 0, .int .i64 0] 60)).cell? ⟨w.heap.size + 1, 2, none⟩ = some (.int .i64 o.num) := (hb2.cell (p := ⟨w.heap.size + 1, 2, none⟩) hqb).trans (HQ0.out.cell 2); have fm6 : (w1.alloc (.cells #[.int .i64 t1.kind, .slice L1 t1.labels.length lc1, .slice A1 t1.args.length ac1, .int .i64 k1] 60)).cell? ⟨w.heap.size + 1, 2, none⟩ = some (.int .i64 o.num) := (hb3.cell (p := ⟨w.heap.size + 1, 2, none⟩) hqb).trans (HQ0.out.cell 2); have fn6 : ((((w1.setCell ⟨w0.heap.size, 0, none⟩ (.int .i64 t1.kind)).setCell ⟨w0.heap.size, 1, none⟩ (.slice L1 t1.labels.length lc1)).setCell ⟨w0.heap.size, 2, none⟩ (.slice A1 t1.args.length ac1)).setCell ⟨w0.heap.size, 3, none⟩ (.int .i64 k1)).cell? ⟨w.heap.size + 1, 2, none⟩ = some (.int .i64 o.num) := typ_far _ _ _ _ _ fk6 (Ne.symm (Nat.ne_of_lt hqb)); have fl7 : (w1.alloc (.cells #[.int .i64 0, .slice none 0 0, .slice none 0 0, .int .i64 0] 60)).cell? ⟨w.heap.size + 1, 3, none⟩ = some (.slice B o.args.length bc) := (hb2.cell (p := ⟨w.heap.size + 1, 3, none⟩) hqb).trans (HQ0.out.cell 3); have fm7 : (w1.alloc (.cells #[.int .i64 t1.kind, .slice L1 t1.labels.length lc1, .slice A1 t1.args.length ac1, .int .i64 k1] 60)).cell? ⟨w.heap.size + 1, 3, none⟩ = some (.slice B o.args.length bc) := (hb3.cell (p := ⟨w.heap.size + 1, 3, none⟩) hqb).trans (HQ0.out.cell 3); have fn7 : ((((w1.setCell ⟨w0.heap.size, 0, none⟩ (.int .i64 t1.kind)).setCell ⟨w0.heap.size, 1, none⟩ (.slice L1 t1.labels.length lc1)).setCell ⟨w0.heap.size, 2, none⟩ (.slice A1 t1.args.length ac1)).setCell ⟨w0.heap.size, 3, none⟩ (.int .i64 k1)).cell? ⟨w.heap.size + 1, 3, none⟩ = some (.slice B o.args.length bc) := typ_far _ _ _ _ _ fk7 (Ne.symm (Nat.ne_of_lt hqb)); clear hb1' hb2 hb3 hv2 hor hs1))
      all_goals go_wp2
      all_goals go_meet
      all_goals first | exact ⟨_, L1, lc1, A1, ac1, t1, k1, rfl, GotT.late HV2.out hb1 HSS.out HOR.out⟩ | exact ⟨_, L1, lc1, A1, ac1, t1, k1, rfl, GotT.late (HV2.out.less fun _ h => .inl h) hb1 HSS.out HOR.out⟩ | exact ⟨_, L1, lc1, A1, ac1, t1, k1, rfl, GotT.early HV2.out HZ1.out (Nat.le_refl _) hb1 HSS.out HOR.out⟩
    case rest =>
      obtain ⟨z, L1, lc1, A1, ac1, t1, k1, rfl, hG⟩ := hcut
      have HG1 := Lib.hid hG
      have HBC := Lib.hid (HB0.out.trans (hG.below.mono HB0.out.size))
      have HUC := Lib.hid (HU0.out.below hG.below)
      have HZC := Lib.hid (HZ0.out.below hG.below HZ0.out.lt)
      have hor := hG.err
      clear hG HTa HTb y0 y1 y2
      rcases hor with ⟨rn, rfl⟩ | ⟨rs, rfl⟩
      · have HRN := Lib.hid (HR.out.trans (mapO_no1 (HR1.out.symm.trans rn)))
        have d0 : wc.cell? ⟨w.heap.size + 1 + 1, 0, none⟩ = some (.int .i64 0) := HZC.out.cell 0
        have df0 : wc.frozen? ⟨w.heap.size + 1 + 1, 0, none⟩ = false := HZC.out.free 0
        have d1 : wc.cell? ⟨w.heap.size + 1 + 1, 1, none⟩ = some (.slice none 0 0) := HZC.out.cell 1
        have df1 : wc.frozen? ⟨w.heap.size + 1 + 1, 1, none⟩ = false := HZC.out.free 1
        have d2 : wc.cell? ⟨w.heap.size + 1 + 1, 2, none⟩ = some (.slice none 0 0) := HZC.out.cell 2
        have df2 : wc.frozen? ⟨w.heap.size + 1 + 1, 2, none⟩ = false := HZC.out.free 2
        have d3 : wc.cell? ⟨w.heap.size + 1 + 1, 3, none⟩ = some (.int .i64 0) := HZC.out.cell 3
        have df3 : wc.frozen? ⟨w.heap.size + 1 + 1, 3, none⟩ = false := HZC.out.free 3
        have e0 : wc.drew.cell? ⟨w.heap.size + 1 + 1, 0, none⟩ = some (.int .i64 0) := d0
        have ef0 : wc.drew.frozen? ⟨w.heap.size + 1 + 1, 0, none⟩ = false := df0
        have e1 : wc.drew.cell? ⟨w.heap.size + 1 + 1, 1, none⟩ = some (.slice none 0 0) := d1
        have ef1 : wc.drew.frozen? ⟨w.heap.size + 1 + 1, 1, none⟩ = false := df1
        have e2 : wc.drew.cell? ⟨w.heap.size + 1 + 1, 2, none⟩ = some (.slice none 0 0) := d2
        have ef2 : wc.drew.frozen? ⟨w.heap.size + 1 + 1, 2, none⟩ = false := df2
        have e3 : wc.drew.cell? ⟨w.heap.size + 1 + 1, 3, none⟩ = some (.int .i64 0) := d3
        have ef3 : wc.drew.frozen? ⟨w.heap.size + 1 + 1, 3, none⟩ = false := df3
        have hu0 : wc.cell? ⟨0, 0, none⟩ = some (.iface 195 (.pointer (some ua))) := HUC.out.2.1
        have hud : wc.drew.cell? ⟨0, 0, none⟩ = some (.iface 195 (.pointer (some ua))) := hu0
        have HF := Lib.hid (typ_none (N := N) (u := (.iface 195 (.pointer (some ua)))) HBC.out HRN.out)
        have HG := Lib.hid (fun a b c d => typ_drew ((typ_none4 (N := N) (u := (.iface 195 (.pointer (some ua)))) (show w.heap.size ≤ w.heap.size + 1 + 1 by omega) HBC.out HRN.out a b c d)))
        clear rn
        go_wp2
        go_region
        go_wp2
        first | exact bodyPost_ret (v := .tuple #[.agg #[.int .i64 0, .slice none 0 0, .slice none 0 0, .int .i64 0], .iface 195 (.pointer (some ua))]) (by simp [results, Tryz.results117, go_sem, d0, d1, d2, d3, e0, e1, e2, e3]) rfl HF.out | exact bodyPost_ret (v := .tuple #[.agg #[.int .i64 0, .slice none 0 0, .slice none 0 0, .int .i64 0], .iface 195 (.pointer (some ua))]) (by simp [results, Tryz.results117, go_sem, d0, d1, d2, d3, e0, e1, e2, e3]) rfl (HG.out _ _ _ _)
      · have HRS := Lib.hid (HR1.out.symm.trans rs)
        clear rs
        have m0 : wc.cell? ⟨z, 0, none⟩ = some (.int .i64 t1.kind) := HG1.out.box.cell 0
        have m1 : wc.cell? ⟨z, 1, none⟩ = some (.slice L1 t1.labels.length lc1) := HG1.out.box.cell 1
        have m2 : wc.cell? ⟨z, 2, none⟩ = some (.slice A1 t1.args.length ac1) := HG1.out.box.cell 2
        have m3 : wc.cell? ⟨z, 3, none⟩ = some (.int .i64 k1) := HG1.out.box.cell 3
        by_cases hk : k1 = 1
        · subst hk
          have HRY := Lib.hid (HR.out.trans (mapO_yes HRS.out))
          have hst : szTy (Ty.mk 5 [] [t1]) ≤ 2000 := by
            have h1 := szTy_eq (Ty.mk 5 [] [t1])
            have h2 := szTy_valid (typeO_valid HRS.out)
            simp [Ty.labels, Ty.args, sumSizes, szTys] at h1
            omega
          obtain ⟨hb8, r8, q8, hs8⟩ := boxes2 wc 27 27 #[.int .i64 t1.kind, .slice L1 t1.labels.length lc1, .slice A1 t1.args.length ac1] #[.int .i64 5, .slice none 0 0, .slice (some ⟨wc.heap.size, 0, none⟩) 1 1]
          have hzz : w.heap.size + 1 + 1 < wc.heap.size := HZC.out.lt
          have hown := list_own (ac := 1) (k := 5) HG1.out.tree (fun q hq => hq.elim (fun h => Nat.lt_of_lt_of_le (HN0.out q (.inl h)) HG1.out.below.size) (fun e => e ▸ hzz)) hb8 (Nat.le_refl _) r8
          have HF := Lib.hid (fun a b c d => typ_fin (r := r) (u := (.iface 195 (.pointer (some ua)))) (kd := 1) (show w.heap.size ≤ w.heap.size + 1 + 1 by omega) (HBC.out.trans (hb8.mono HBC.out.size)) hown hst (.inr ⟨HRY.out, rfl⟩) a b c d)
          have z8 := HZC.out.below hb8 HZC.out.lt
          have d0 : ((wc.alloc (.cells #[.int .i64 t1.kind, .slice L1 t1.labels.length lc1, .slice A1 t1.args.length ac1] 27)).alloc (.cells #[.int .i64 5, .slice none 0 0, .slice (some ⟨wc.heap.size, 0, none⟩) 1 1] 27)).cell? ⟨w.heap.size + 1 + 1, 0, none⟩ = some (.int .i64 0) := z8.cell 0
          have df0 : ((wc.alloc (.cells #[.int .i64 t1.kind, .slice L1 t1.labels.length lc1, .slice A1 t1.args.length ac1] 27)).alloc (.cells #[.int .i64 5, .slice none 0 0, .slice (some ⟨wc.heap.size, 0, none⟩) 1 1] 27)).frozen? ⟨w.heap.size + 1 + 1, 0, none⟩ = false := z8.free 0
          have d1 : ((wc.alloc (.cells #[.int .i64 t1.kind, .slice L1 t1.labels.length lc1, .slice A1 t1.args.length ac1] 27)).alloc (.cells #[.int .i64 5, .slice none 0 0, .slice (some ⟨wc.heap.size, 0, none⟩) 1 1] 27)).cell? ⟨w.heap.size + 1 + 1, 1, none⟩ = some (.slice none 0 0) := z8.cell 1
          have df1 : ((wc.alloc (.cells #[.int .i64 t1.kind, .slice L1 t1.labels.length lc1, .slice A1 t1.args.length ac1] 27)).alloc (.cells #[.int .i64 5, .slice none 0 0, .slice (some ⟨wc.heap.size, 0, none⟩) 1 1] 27)).frozen? ⟨w.heap.size + 1 + 1, 1, none⟩ = false := z8.free 1
          have d2 : ((wc.alloc (.cells #[.int .i64 t1.kind, .slice L1 t1.labels.length lc1, .slice A1 t1.args.length ac1] 27)).alloc (.cells #[.int .i64 5, .slice none 0 0, .slice (some ⟨wc.heap.size, 0, none⟩) 1 1] 27)).cell? ⟨w.heap.size + 1 + 1, 2, none⟩ = some (.slice none 0 0) := z8.cell 2
          have df2 : ((wc.alloc (.cells #[.int .i64 t1.kind, .slice L1 t1.labels.length lc1, .slice A1 t1.args.length ac1] 27)).alloc (.cells #[.int .i64 5, .slice none 0 0, .slice (some ⟨wc.heap.size, 0, none⟩) 1 1] 27)).frozen? ⟨w.heap.size + 1 + 1, 2, none⟩ = false := z8.free 2
          have d3 : ((wc.alloc (.cells #[.int .i64 t1.kind, .slice L1 t1.labels.length lc1, .slice A1 t1.args.length ac1] 27)).alloc (.cells #[.int .i64 5, .slice none 0 0, .slice (some ⟨wc.heap.size, 0, none⟩) 1 1] 27)).cell? ⟨w.heap.size + 1 + 1, 3, none⟩ = some (.int .i64 0) := z8.cell 3
          have df3 : ((wc.alloc (.cells #[.int .i64 t1.kind, .slice L1 t1.labels.length lc1, .slice A1 t1.args.length ac1] 27)).alloc (.cells #[.int .i64 5, .slice none 0 0, .slice (some ⟨wc.heap.size, 0, none⟩) 1 1] 27)).frozen? ⟨w.heap.size + 1 + 1, 3, none⟩ = false := z8.free 3
          clear hs8 hown r8 q8 hb8 z8 hst hzz
          go_wp2
          exact bodyPost_ret (v := .tuple #[.agg #[.int .i64 5, .slice none 0 0, .slice (some ⟨wc.heap.size, 0, none⟩) 1 1, .int .i64 1], .nilIface]) (by simp [results, Tryz.results117, go_sem, d0, d1, d2, d3]) rfl (HF.out _ _ _ _)
        · have i2 : (k1 != 1) = true := by simpa using hk
          have HRN := Lib.hid (HR.out.trans (mapO_no2 HRS.out hk))
          clear hk
          have d0 : wc.cell? ⟨w.heap.size + 1 + 1, 0, none⟩ = some (.int .i64 0) := HZC.out.cell 0
          have df0 : wc.frozen? ⟨w.heap.size + 1 + 1, 0, none⟩ = false := HZC.out.free 0
          have d1 : wc.cell? ⟨w.heap.size + 1 + 1, 1, none⟩ = some (.slice none 0 0) := HZC.out.cell 1
          have df1 : wc.frozen? ⟨w.heap.size + 1 + 1, 1, none⟩ = false := HZC.out.free 1
          have d2 : wc.cell? ⟨w.heap.size + 1 + 1, 2, none⟩ = some (.slice none 0 0) := HZC.out.cell 2
          have df2 : wc.frozen? ⟨w.heap.size + 1 + 1, 2, none⟩ = false := HZC.out.free 2
          have d3 : wc.cell? ⟨w.heap.size + 1 + 1, 3, none⟩ = some (.int .i64 0) := HZC.out.cell 3
          have df3 : wc.frozen? ⟨w.heap.size + 1 + 1, 3, none⟩ = false := HZC.out.free 3
          have e0 : wc.drew.cell? ⟨w.heap.size + 1 + 1, 0, none⟩ = some (.int .i64 0) := d0
          have ef0 : wc.drew.frozen? ⟨w.heap.size + 1 + 1, 0, none⟩ = false := df0
          have e1 : wc.drew.cell? ⟨w.heap.size + 1 + 1, 1, none⟩ = some (.slice none 0 0) := d1
          have ef1 : wc.drew.frozen? ⟨w.heap.size + 1 + 1, 1, none⟩ = false := df1
          have e2 : wc.drew.cell? ⟨w.heap.size + 1 + 1, 2, none⟩ = some (.slice none 0 0) := d2
          have ef2 : wc.drew.frozen? ⟨w.heap.size + 1 + 1, 2, none⟩ = false := df2
          have e3 : wc.drew.cell? ⟨w.heap.size + 1 + 1, 3, none⟩ = some (.int .i64 0) := d3
          have ef3 : wc.drew.frozen? ⟨w.heap.size + 1 + 1, 3, none⟩ = false := df3
          have hu0 : wc.cell? ⟨0, 0, none⟩ = some (.iface 195 (.pointer (some ua))) := HUC.out.2.1
          have hud : wc.drew.cell? ⟨0, 0, none⟩ = some (.iface 195 (.pointer (some ua))) := hu0
          have HF := Lib.hid (typ_none (N := N) (u := (.iface 195 (.pointer (some ua)))) HBC.out HRN.out)
          have HG := Lib.hid (fun a b c d => typ_drew ((typ_none4 (N := N) (u := (.iface 195 (.pointer (some ua)))) (show w.heap.size ≤ w.heap.size + 1 + 1 by omega) HBC.out HRN.out a b c d)))
          go_wp2
          go_region
          go_wp2
          first | exact bodyPost_ret (v := .tuple #[.agg #[.int .i64 0, .slice none 0 0, .slice none 0 0, .int .i64 0], .iface 195 (.pointer (some ua))]) (by simp [results, Tryz.results117, go_sem, d0, d1, d2, d3, e0, e1, e2, e3]) rfl HF.out | exact bodyPost_ret (v := .tuple #[.agg #[.int .i64 0, .slice none 0 0, .slice none 0 0, .int .i64 0], .iface 195 (.pointer (some ua))]) (by simp [results, Tryz.results117, go_sem, d0, d1, d2, d3, e0, e1, e2, e3]) rfl (HG.out _ _ _ _)
  · have i1 : (s.kind != 5) = true := by simpa using h5
    have HRN := Lib.hid (HR.out.trans (mapO_none h5))
    clear h5
    have d0 : w0.cell? ⟨w.heap.size + 1 + 1, 0, none⟩ = some (.int .i64 0) := HZ0.out.cell 0
    have df0 : w0.frozen? ⟨w.heap.size + 1 + 1, 0, none⟩ = false := HZ0.out.free 0
    have d1 : w0.cell? ⟨w.heap.size + 1 + 1, 1, none⟩ = some (.slice none 0 0) := HZ0.out.cell 1
    have df1 : w0.frozen? ⟨w.heap.size + 1 + 1, 1, none⟩ = false := HZ0.out.free 1
    have d2 : w0.cell? ⟨w.heap.size + 1 + 1, 2, none⟩ = some (.slice none 0 0) := HZ0.out.cell 2
    have df2 : w0.frozen? ⟨w.heap.size + 1 + 1, 2, none⟩ = false := HZ0.out.free 2
    have d3 : w0.cell? ⟨w.heap.size + 1 + 1, 3, none⟩ = some (.int .i64 0) := HZ0.out.cell 3
    have df3 : w0.frozen? ⟨w.heap.size + 1 + 1, 3, none⟩ = false := HZ0.out.free 3
    have e0 : w0.drew.cell? ⟨w.heap.size + 1 + 1, 0, none⟩ = some (.int .i64 0) := d0
    have ef0 : w0.drew.frozen? ⟨w.heap.size + 1 + 1, 0, none⟩ = false := df0
    have e1 : w0.drew.cell? ⟨w.heap.size + 1 + 1, 1, none⟩ = some (.slice none 0 0) := d1
    have ef1 : w0.drew.frozen? ⟨w.heap.size + 1 + 1, 1, none⟩ = false := df1
    have e2 : w0.drew.cell? ⟨w.heap.size + 1 + 1, 2, none⟩ = some (.slice none 0 0) := d2
    have ef2 : w0.drew.frozen? ⟨w.heap.size + 1 + 1, 2, none⟩ = false := df2
    have e3 : w0.drew.cell? ⟨w.heap.size + 1 + 1, 3, none⟩ = some (.int .i64 0) := d3
    have ef3 : w0.drew.frozen? ⟨w.heap.size + 1 + 1, 3, none⟩ = false := df3
    have hu0 : w0.cell? ⟨0, 0, none⟩ = some (.iface 195 (.pointer (some ua))) := HU0.out.2.1
    have hud : w0.drew.cell? ⟨0, 0, none⟩ = some (.iface 195 (.pointer (some ua))) := hu0
    have HF := Lib.hid (typ_none (N := N) (u := (.iface 195 (.pointer (some ua)))) HB0.out HRN.out)
    have HG := Lib.hid (fun a b c d => typ_drew ((typ_none4 (N := N) (u := (.iface 195 (.pointer (some ua)))) (show w.heap.size ≤ w.heap.size + 1 + 1 by omega) HB0.out HRN.out a b c d)))
    go_wp2
    go_region
    go_wp2
    first | exact bodyPost_ret (v := .tuple #[.agg #[.int .i64 0, .slice none 0 0, .slice none 0 0, .int .i64 0], .iface 195 (.pointer (some ua))]) (by simp [results, Tryz.results117, go_sem, d0, d1, d2, d3, e0, e1, e2, e3]) rfl HF.out | exact bodyPost_ret (v := .tuple #[.agg #[.int .i64 0, .slice none 0 0, .slice none 0 0, .int .i64 0], .iface 195 (.pointer (some ua))]) (by simp [results, Tryz.results117, go_sem, d0, d1, d2, d3, e0, e1, e2, e3]) rfl (HG.out _ _ _ _)

end Go.Proofs.YthdfidhijmcbdaaGreatDoor
