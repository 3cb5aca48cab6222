/- Lemmas: Typ, TypIs, ImplTyped, JoinsLaid, UnfitLaid. -/
import Derived.Test.YthdfidhijmcbdaaGreatDoorLawIsTyped_1
import Derived.Test.YthdfidhijmcbdaaGreatDoorImplValid
import Derived.Test.YthdfidhijmcbdaaGreatDoorTypLib
import Derived.LaidEql
import Derived.Stop.Asserts
import Derived.RowKitTokens
import Derived.Test.YthdfidhijmcbdaaGreatDoorImplOForm
import Derived.Test.YthdfidhijmcbdaaGreatDoorCopyTy
import Derived.Test.YthdfidhijmcbdaaGreatDoorRows
import Derived.Test.YthdfidhijmcbdaaGreatDoorLawLaid
import Derived.Test.YthdfidhijmcbdaaGreatDoorImplKind
import Derived.Stop.LaidErr

section
namespace Go.Proofs.YthdfidhijmcbdaaGreatDoor
set_option maxRecDepth 100000
set_option linter.unusedSimpArgs false
open Go.RowKit
attribute [local go_sem ↓] Go.wp_at_zero Go.wp_at_succ

theorem nodeTyO_leaf {k : Int} {nm : ByteArray} {fs : List (Ty → Option (Ty × Int))} {s : Ty} (h1 : k ≠ 11) (h2 : k ≠ 12) (h3 : k ≠ 13) : nodeTyO k nm fs s = leafO k nm s := by
  simp only [nodeTyO, if_neg h1, if_neg h2, if_neg h3]

theorem typKind_any (k0 n0 : Int) (nm : ByteArray) (ts : List Ot) (hall : ∀ i, (h : i < ts.length) → TypOne ts[i]) {N : Nat → Prop} {u : Value} {r : Option (Ty × Int)} (s : Ty) (sv ov : Value) (w : World) (hN : ∀ b, N b → b < w.heap.size) (hU : UnfitAt w u) (hJ : JoinsAt w) (hv : OwnA N w sv s) (ho : OtAt w w.heap.size ov (.mk k0 n0 nm ts)) (hval : validB s = true) (hf : formOt (.mk k0 n0 nm ts) = true) (hz : szOt (.mk k0 n0 nm ts) ≤ 1048576) (hr : r = nodeTyO k0 nm (typeOs ts) s) :
    Calls Tryz.prog 98 #[sv, ov] w (TypPost N u r w) := by
  obtain ⟨B, bc, rfl, _⟩ := ho.open
  simp only [Ot.kind, Ot.num, Ot.name, Ot.args] at ho ⊢
  by_cases e1 : k0 = 1
  · subst e1
    exact typKind_id n0 nm ts B bc s sv w hN hU hJ hv ho hval hf hz (hr.trans (nodeTyO_leaf (by decide) (by decide) (by decide)))
  by_cases e2 : k0 = 2
  · subst e2
    exact typKind_field n0 nm ts B bc s sv w hN hU hJ hv ho hval hf hz (hr.trans (nodeTyO_leaf (by decide) (by decide) (by decide)))
  by_cases e3 : k0 = 3
  · subst e3
    exact typKind_case n0 nm ts B bc s sv w hN hU hJ hv ho hval hf hz (hr.trans (nodeTyO_leaf (by decide) (by decide) (by decide)))
  by_cases e4 : k0 = 4
  · subst e4
    exact typKind_each n0 nm ts B bc s sv w hN hU hJ hv ho hval hf hz (hr.trans (nodeTyO_leaf (by decide) (by decide) (by decide)))
  by_cases e5 : k0 = 5
  · subst e5
    exact typKind_all n0 nm ts B bc s sv w hN hU hJ hv ho hval hf hz (hr.trans (nodeTyO_leaf (by decide) (by decide) (by decide)))
  by_cases e6 : k0 = 6
  · subst e6
    exact typKind_at n0 nm ts B bc s sv w hN hU hJ hv ho hval hf hz (hr.trans (nodeTyO_leaf (by decide) (by decide) (by decide)))
  by_cases e7 : k0 = 7
  · subst e7
    exact typKind_add n0 nm ts B bc s sv w hN hU hJ hv ho hval hf hz (hr.trans (nodeTyO_leaf (by decide) (by decide) (by decide)))
  by_cases e8 : k0 = 8
  · subst e8
    exact typKind_not n0 nm ts B bc s sv w hN hU hJ hv ho hval hf hz (hr.trans (nodeTyO_leaf (by decide) (by decide) (by decide)))
  by_cases e9 : k0 = 9
  · subst e9
    exact typKind_rev n0 nm ts B bc s sv w hN hU hJ hv ho hval hf hz (hr.trans (nodeTyO_leaf (by decide) (by decide) (by decide)))
  by_cases e10 : k0 = 10
  · subst e10
    exact typKind_wrap n0 nm ts B bc s sv w hN hU hJ hv ho hval hf hz (hr.trans (nodeTyO_leaf (by decide) (by decide) (by decide)))
  by_cases e11 : k0 = 11
  · subst e11
    obtain ⟨a, rfl, fa⟩ := form_one hf rfl
    exact typKind_map a (hall 0 (by simp)) fa n0 nm B bc s sv w hN hU hJ hv ho hval hf hz (hr.trans (by simp [nodeTyO, typeOs]))
  by_cases e12 : k0 = 12
  · subst e12
    obtain ⟨a, b, rfl, fa, fb⟩ := form_two hf (.inl rfl)
    exact typKind_then a b (hall 0 (by simp)) (hall 1 (by simp)) fa fb n0 nm B bc s sv w hN hU hJ hv ho hval hf hz (hr.trans (by simp [nodeTyO, typeOs]))
  by_cases e13 : k0 = 13
  · subst e13
    obtain ⟨a, b, rfl, fa, fb⟩ := form_two hf (.inr rfl)
    exact typKind_else a b (hall 0 (by simp)) (hall 1 (by simp)) fa fb n0 nm B bc s sv w hN hU hJ hv ho hval hf hz (hr.trans (by simp [nodeTyO, typeOs]))
  exact typKind_none k0 (by simpa using e1) (by simpa using e2) (by simpa using e3) (by simpa using e4) (by simpa using e5) (by simpa using e6) (by simpa using e7) (by simpa using e8) (by simpa using e9) (by simpa using e10) (by simpa using e11) (by simpa using e12) (by simpa using e13) n0 nm ts B bc s sv w hN hU hJ hv ho hval hf hz (hr.trans ((nodeTyO_leaf e11 e12 e13).trans (by simp only [leafO, if_neg e1, if_neg e2, if_neg e3, if_neg e4, if_neg e5, if_neg e6, if_neg e7, if_neg e8, if_neg e9, if_neg e10])))

set_option maxHeartbeats 4000000 in
theorem typOne_of (k0 n0 : Int) (nm : ByteArray) (ts : List Ot) (hall : ∀ i, (h : i < ts.length) → TypOne ts[i]) : TypOne (.mk k0 n0 nm ts) := by
  intro N u r s sv ov w hN hU hJ hv ho hval hf hz hr
  have hr' : r = goodO (nodeTyO k0 nm (typeOs ts) s) := by rw [hr, typeO]
  obtain ⟨o, ho_⟩ : ∃ o, o = Ot.mk k0 n0 nm ts := ⟨_, rfl⟩
  have hKK := fun (W : World) (N' : Nat → Prop) (r' : Option (Ty × Int)) (sv' ov' : Value) (h1 : ∀ b, N' b → b < W.heap.size) (h2 : UnfitAt W u) (h3 : JoinsAt W) (h4 : OwnA N' W sv' s) (h5 : OtAt W W.heap.size ov' o) (h6 : r' = nodeTyO k0 nm (typeOs ts) s) => typKind_any k0 n0 nm ts hall (N := N') (u := u) (r := r') s sv' ov' W h1 h2 h3 h4 (ho_ ▸ h5) hval hf hz h6
  rw [← ho_] at ho
  obtain ⟨L, lc, A, ac, rfl⟩ := hv.open
  obtain ⟨B, bc, rfl, _⟩ := ho.open
  obtain ⟨hb0, p0, q0, zz0, hs0⟩ := boxes3 w 27 30 60 #[.int .i64 s.kind, .slice L s.labels.length lc, .slice A s.args.length ac] #[.int .i64 o.kind, .string o.name, .int .i64 o.num, .slice B o.args.length bc] #[.int .i64 0, .slice none 0 0, .slice none 0 0, .int .i64 0]
  have hv0 := (hv.late (w.heap.size + 1 + 1) (by omega)).up hb0
  have HU0 := Lib.hid (hU.below hb0)
  have hN0 : ∀ b, (N b ∨ b = w.heap.size + 1 + 1) → b < (((w.alloc (.cells #[.int .i64 s.kind, .slice L s.labels.length lc, .slice A s.args.length ac] 27)).alloc (.cells #[.int .i64 o.kind, .string o.name, .int .i64 o.num, .slice B o.args.length bc] 30)).alloc (.cells #[.int .i64 0, .slice none 0 0, .slice none 0 0, .int .i64 0] 60)).heap.size := fun b hb => hb.elim (fun hb => Nat.lt_of_lt_of_le (hN b hb) hb0.size) (fun e => e ▸ zz0.lt)
  obtain ⟨r1, hr1⟩ : ∃ x, x = nodeTyO k0 nm (typeOs ts) s := ⟨_, rfl⟩
  have HC := Lib.hid (hKK _ (fun b => N b ∨ b = w.heap.size + 1 + 1) r1 _ _ hN0 HU0.out (hJ.below hb0) hv0 (ho.up hb0) hr1)
  have HR := Lib.hid (hr'.trans (congrArg goodO hr1.symm))
  have HB0 := Lib.hid hb0
  have HZ0 := Lib.hid zz0
  clear hr hr' hr1 ho_ hKK hv hv0 ho hN hJ hb0 zz0 p0 q0 hs0 hN0 hf hz hval hall
  obtain ⟨hug, huc, ua, rfl⟩ := hU
  clear hug huc
  go_enter Tryz.func68, Tryz.ntmps68
  go_wp2_with fail
  generalize ((w.alloc (.cells #[.int .i64 s.kind, .slice L s.labels.length lc, .slice A s.args.length ac] 27)).alloc (.cells #[.int .i64 o.kind, .string o.name, .int .i64 o.num, .slice B o.args.length bc] 30)).alloc (.cells #[.int .i64 0, .slice none 0 0, .slice none 0 0, .int .i64 0] 60) = w0 at *
  refine HC.out.mono ?_
  rintro e w1 ⟨L1, lc1, A1, ac1, t1, k1, x1, rfl, hv1, hb1, hs1, hor1⟩
  have hx1 := (Below.refl w1.heap.size w1).alloc (Nat.le_refl _) (.cells #[.int .i64 t1.kind, .slice L1 t1.labels.length lc1, .slice A1 t1.args.length ac1, .int .i64 k1] 60)
  have hd1 := hb1.trans (hx1.mono hb1.size)
  have HN1 := Lib.hid (show Whole1 (w1.alloc (.cells #[.int .i64 t1.kind, .slice L1 t1.labels.length lc1, .slice A1 t1.args.length ac1, .int .i64 k1] 60)) w1.heap.size 60 #[.int .i64 t1.kind, .slice L1 t1.labels.length lc1, .slice A1 t1.args.length ac1, .int .i64 k1] from Whole1.new _ _ _)
  have HV1 := Lib.hid (hv1.up hx1)
  have HZ1 := Lib.hid (HZ0.out.below hd1 HZ0.out.lt)
  have HB1 := Lib.hid (HB0.out.trans (hd1.mono HB0.out.size))
  have HU1 := Lib.hid (HU0.out.below hd1)
  have HS1 := Lib.hid hs1
  clear hx1 hd1 hv1 hb1 hs1 HC
  go_upto_region 2 with fail
  generalize (w1.alloc (.cells #[.int .i64 t1.kind, .slice L1 t1.labels.length lc1, .slice A1 t1.args.length ac1, .int .i64 k1] 60)) = W1 at *
  rcases hor1 with ⟨rn, rfl⟩ | ⟨rs, rfl⟩
  · have HRN := Lib.hid (HR.out.trans (by rw [rn, goodO]))
    have d0 : W1.cell? ⟨w.heap.size + 1 + 1, 0, none⟩ = some (.int .i64 0) := HZ1.out.cell 0
    have df0 : W1.frozen? ⟨w.heap.size + 1 + 1, 0, none⟩ = false := HZ1.out.free 0
    have d1 : W1.cell? ⟨w.heap.size + 1 + 1, 1, none⟩ = some (.slice none 0 0) := HZ1.out.cell 1
    have df1 : W1.frozen? ⟨w.heap.size + 1 + 1, 1, none⟩ = false := HZ1.out.free 1
    have d2 : W1.cell? ⟨w.heap.size + 1 + 1, 2, none⟩ = some (.slice none 0 0) := HZ1.out.cell 2
    have df2 : W1.frozen? ⟨w.heap.size + 1 + 1, 2, none⟩ = false := HZ1.out.free 2
    have d3 : W1.cell? ⟨w.heap.size + 1 + 1, 3, none⟩ = some (.int .i64 0) := HZ1.out.cell 3
    have df3 : W1.frozen? ⟨w.heap.size + 1 + 1, 3, none⟩ = false := HZ1.out.free 3
    have e0 : W1.drew.cell? ⟨w.heap.size + 1 + 1, 0, none⟩ = some (.int .i64 0) := d0
    have ef0 : W1.drew.frozen? ⟨w.heap.size + 1 + 1, 0, none⟩ = false := df0
    have e1 : W1.drew.cell? ⟨w.heap.size + 1 + 1, 1, none⟩ = some (.slice none 0 0) := d1
    have ef1 : W1.drew.frozen? ⟨w.heap.size + 1 + 1, 1, none⟩ = false := df1
    have e2 : W1.drew.cell? ⟨w.heap.size + 1 + 1, 2, none⟩ = some (.slice none 0 0) := d2
    have ef2 : W1.drew.frozen? ⟨w.heap.size + 1 + 1, 2, none⟩ = false := df2
    have e3 : W1.drew.cell? ⟨w.heap.size + 1 + 1, 3, none⟩ = some (.int .i64 0) := d3
    have ef3 : W1.drew.frozen? ⟨w.heap.size + 1 + 1, 3, none⟩ = false := df3
    have hu0 : W1.cell? ⟨0, 0, none⟩ = some (.iface 195 (.pointer (some ua))) := HU1.out.2.1
    have hud : W1.drew.cell? ⟨0, 0, none⟩ = some (.iface 195 (.pointer (some ua))) := hu0
    have HF := Lib.hid (typ_none (N := N) (u := (.iface 195 (.pointer (some ua)))) HB1.out HRN.out)
    have HG := Lib.hid (fun a b c d => typ_drew ((typ_none4 (N := N) (u := (.iface 195 (.pointer (some ua)))) (show w.heap.size ≤ w.heap.size + 1 + 1 by omega) HB1.out HRN.out a b c d)))
    clear rn
    go_wp2
    go_region
    go_wp2
    first | exact bodyPost_ret (v := .tuple #[.agg #[.int .i64 0, .slice none 0 0, .slice none 0 0, .int .i64 0], .iface 195 (.pointer (some ua))]) (by simp [results, Tryz.results68, go_sem, d0, d1, d2, d3, e0, e1, e2, e3]) rfl HF.out | exact bodyPost_ret (v := .tuple #[.agg #[.int .i64 0, .slice none 0 0, .slice none 0 0, .int .i64 0], .iface 195 (.pointer (some ua))]) (by simp [results, Tryz.results68, go_sem, d0, d1, d2, d3, e0, e1, e2, e3]) rfl (HG.out _ _ _ _)
  · have HRS := Lib.hid rs
    have HVA := Lib.hid (implValid_any t1 _ W1 HV1.out.own (by have := HS1.out; omega))
    have m0 : W1.cell? ⟨w1.heap.size, 0, none⟩ = some (.int .i64 t1.kind) := HN1.out.cell 0
    have m1 : W1.cell? ⟨w1.heap.size, 1, none⟩ = some (.slice L1 t1.labels.length lc1) := HN1.out.cell 1
    have m2 : W1.cell? ⟨w1.heap.size, 2, none⟩ = some (.slice A1 t1.args.length ac1) := HN1.out.cell 2
    have m3 : W1.cell? ⟨w1.heap.size, 3, none⟩ = some (.int .i64 k1) := HN1.out.cell 3
    cases hvb : validB t1
    · rw [hvb] at HVA
      have HRN := Lib.hid (HR.out.trans (show goodO r1 = none by rw [HRS.out]; simp [goodO, hvb]))
      clear hvb
      go_wp2_with fail
      refine HVA.out.mono ?_
      rintro e w2 ⟨rfl, hb2⟩
      have HU2 := Lib.hid (HU1.out.below hb2)
      have HB2 := Lib.hid (HB1.out.trans (hb2.mono HB1.out.size))
      have HZ2 := Lib.hid (HZ1.out.below hb2 HZ1.out.lt)
      clear hb2 m0 m1 m2 m3 rs
      have d0 : w2.cell? ⟨w.heap.size + 1 + 1, 0, none⟩ = some (.int .i64 0) := HZ2.out.cell 0
      have df0 : w2.frozen? ⟨w.heap.size + 1 + 1, 0, none⟩ = false := HZ2.out.free 0
      have d1 : w2.cell? ⟨w.heap.size + 1 + 1, 1, none⟩ = some (.slice none 0 0) := HZ2.out.cell 1
      have df1 : w2.frozen? ⟨w.heap.size + 1 + 1, 1, none⟩ = false := HZ2.out.free 1
      have d2 : w2.cell? ⟨w.heap.size + 1 + 1, 2, none⟩ = some (.slice none 0 0) := HZ2.out.cell 2
      have df2 : w2.frozen? ⟨w.heap.size + 1 + 1, 2, none⟩ = false := HZ2.out.free 2
      have d3 : w2.cell? ⟨w.heap.size + 1 + 1, 3, none⟩ = some (.int .i64 0) := HZ2.out.cell 3
      have df3 : w2.frozen? ⟨w.heap.size + 1 + 1, 3, none⟩ = false := HZ2.out.free 3
      have e0 : w2.drew.cell? ⟨w.heap.size + 1 + 1, 0, none⟩ = some (.int .i64 0) := d0
      have ef0 : w2.drew.frozen? ⟨w.heap.size + 1 + 1, 0, none⟩ = false := df0
      have e1 : w2.drew.cell? ⟨w.heap.size + 1 + 1, 1, none⟩ = some (.slice none 0 0) := d1
      have ef1 : w2.drew.frozen? ⟨w.heap.size + 1 + 1, 1, none⟩ = false := df1
      have e2 : w2.drew.cell? ⟨w.heap.size + 1 + 1, 2, none⟩ = some (.slice none 0 0) := d2
      have ef2 : w2.drew.frozen? ⟨w.heap.size + 1 + 1, 2, none⟩ = false := df2
      have e3 : w2.drew.cell? ⟨w.heap.size + 1 + 1, 3, none⟩ = some (.int .i64 0) := d3
      have ef3 : w2.drew.frozen? ⟨w.heap.size + 1 + 1, 3, none⟩ = false := df3
      have hu0 : w2.cell? ⟨0, 0, none⟩ = some (.iface 195 (.pointer (some ua))) := HU2.out.2.1
      have hud : w2.drew.cell? ⟨0, 0, none⟩ = some (.iface 195 (.pointer (some ua))) := hu0
      have HF := Lib.hid (typ_none (N := N) (u := (.iface 195 (.pointer (some ua)))) HB2.out HRN.out)
      have HG := Lib.hid (fun a b c d => typ_drew ((typ_none4 (N := N) (u := (.iface 195 (.pointer (some ua)))) (show w.heap.size ≤ w.heap.size + 1 + 1 by omega) HB2.out HRN.out a b c d)))
      go_wp2
      go_region
      go_wp2
      first | exact bodyPost_ret (v := .tuple #[.agg #[.int .i64 0, .slice none 0 0, .slice none 0 0, .int .i64 0], .iface 195 (.pointer (some ua))]) (by simp [results, Tryz.results68, go_sem, d0, d1, d2, d3, e0, e1, e2, e3]) rfl HF.out | exact bodyPost_ret (v := .tuple #[.agg #[.int .i64 0, .slice none 0 0, .slice none 0 0, .int .i64 0], .iface 195 (.pointer (some ua))]) (by simp [results, Tryz.results68, go_sem, d0, d1, d2, d3, e0, e1, e2, e3]) rfl (HG.out _ _ _ _)
    · rw [hvb] at HVA
      have HRY := Lib.hid (HR.out.trans (show goodO r1 = some (t1, k1) by rw [HRS.out]; simp [goodO, hvb]))
      clear hvb
      go_wp2_with fail
      refine HVA.out.mono ?_
      rintro e w2 ⟨rfl, hb2⟩
      have HB2 := Lib.hid (HB1.out.trans (hb2.mono HB1.out.size))
      have z2 := HZ1.out.below hb2 HZ1.out.lt
      have n2 := HN1.out.below hb2 HN1.out.lt
      have HF := Lib.hid (fun a b c d => typ_fin (r := r) (u := (.iface 195 (.pointer (some ua)))) (show w.heap.size ≤ w.heap.size + 1 + 1 by omega) HB2.out (HV1.out.up hb2) HS1.out (.inr ⟨HRY.out, rfl⟩) a b c d)
      clear m0 m1 m2 m3
      have d0 : w2.cell? ⟨w.heap.size + 1 + 1, 0, none⟩ = some (.int .i64 0) := z2.cell 0
      have df0 : w2.frozen? ⟨w.heap.size + 1 + 1, 0, none⟩ = false := z2.free 0
      have d1 : w2.cell? ⟨w.heap.size + 1 + 1, 1, none⟩ = some (.slice none 0 0) := z2.cell 1
      have df1 : w2.frozen? ⟨w.heap.size + 1 + 1, 1, none⟩ = false := z2.free 1
      have d2 : w2.cell? ⟨w.heap.size + 1 + 1, 2, none⟩ = some (.slice none 0 0) := z2.cell 2
      have df2 : w2.frozen? ⟨w.heap.size + 1 + 1, 2, none⟩ = false := z2.free 2
      have d3 : w2.cell? ⟨w.heap.size + 1 + 1, 3, none⟩ = some (.int .i64 0) := z2.cell 3
      have df3 : w2.frozen? ⟨w.heap.size + 1 + 1, 3, none⟩ = false := z2.free 3
      have m0 : w2.cell? ⟨w1.heap.size, 0, none⟩ = some (.int .i64 t1.kind) := n2.cell 0
      have m1 : w2.cell? ⟨w1.heap.size, 1, none⟩ = some (.slice L1 t1.labels.length lc1) := n2.cell 1
      have m2 : w2.cell? ⟨w1.heap.size, 2, none⟩ = some (.slice A1 t1.args.length ac1) := n2.cell 2
      have m3 : w2.cell? ⟨w1.heap.size, 3, none⟩ = some (.int .i64 k1) := n2.cell 3
      clear hb2 z2 n2 rs
      go_wp2
      exact bodyPost_ret (v := .tuple #[.agg #[.int .i64 t1.kind, .slice L1 t1.labels.length lc1, .slice A1 t1.args.length ac1, .int .i64 k1], .nilIface]) (by simp [results, Tryz.results68, go_sem, d0, d1, d2, d3]) rfl (HF.out _ _ _ _)

theorem typOne_any (o : Ot) : TypOne o := by
  induction o using Ot.ind with
  | h k n nm ts ih => exact typOne_of k n nm ts ih

end Go.Proofs.YthdfidhijmcbdaaGreatDoor
end

section
namespace Go.Proofs.YthdfidhijmcbdaaGreatDoor
open Go.RowKit Go.Extern.Stop Go.Stop Go.Extern

theorem errIs_nil (a : Addr) (w : World) :
    Calls Tryz.prog 34 #[.nilIface, .iface 195 (.pointer (some a))] w fun e w' => e = .returned (.bool false) ∧ w' = w := by
  have hn := run_eql_iface_nil_left (P := Tryz.prog) w 195 (.pointer (some a)) Tryz.underlying62
  go_enter Tryz.func34, Tryz.ntmps34
  go_wp2
  go_ret
  exact ⟨rfl, rfl⟩

theorem errTypeOf (v : Value) (w : World) : (Extern.ReflectliteType.typeOf #[.iface 195 v]).run Tryz.prog w = .ok (.iface 116 (.agg #[.pointer (some ⟨2, 195, none⟩)])) w := by kernel_rfl
theorem errComparable (w : World) : ((Extern.ReflectliteType.method fun t => do Go.Extern.Rtype.noPackHeld "Comparable" t; (fun a => Value.bool a.comparable) <$> typeInfo t) #[.agg #[.pointer (some ⟨2, 195, none⟩)]]).run Tryz.prog w = .ok (.bool true) w := by kernel_rfl
theorem errMethodComparable (v : Value) (w : World) : (Go.method 332 116 v "Comparable").run Tryz.prog w = .ok (170, v) w := by kernel_rfl
theorem errComp : (Tryz.prog.info? 195).map (·.comparable) = some true := by kernel_rfl
theorem errSize : (Tryz.prog.info? 220).map (·.size) = some 1 := by kernel_rfl

theorem errIs_same (a : Addr) (w : World) :
    Calls Tryz.prog 34 #[.iface 195 (.pointer (some a)), .iface 195 (.pointer (some a))] w fun e w' => e = .returned (.bool true) ∧ w' = w := by
  obtain ⟨i, hi, hcmp⟩ := Option.map_eq_some_iff.1 errComp
  obtain ⟨j, hj, hjs⟩ := Option.map_eq_some_iff.1 errSize
  have h8 := @run_callFunc_extern Tryz.prog 69 _ Extern.ReflectliteType.typeOf Tryz.func69 (by kernel_rfl) (by kernel_rfl) (by kernel_rfl) (by kernel_rfl)
  have h32 := @run_callFunc_extern Tryz.prog 170 _ (Extern.ReflectliteType.method fun t => do Go.Extern.Rtype.noPackHeld "Comparable" t; pure (.bool (← typeInfo t).comparable)) Tryz.func170 (by kernel_rfl) (by kernel_rfl) (by kernel_rfl) (by kernel_rfl)
  have tT := errTypeOf
  have cT := errComparable
  have mR := errMethodComparable
  have heq := run_eql_iface_ptr_same (P := Tryz.prog) w a Tryz.underlying62 Tryz.underlying195 hi hcmp hj
  go_enter Tryz.func34, Tryz.ntmps34
  go_wp2
  refine wp_loop_rounds 1 ?_
  rw [rounds_succ]
  go_wp2
  go_ret
  exact ⟨rfl, rfl⟩

end Go.Proofs.YthdfidhijmcbdaaGreatDoor
end

section
namespace Go.Proofs.YthdfidhijmcbdaaGreatDoor
set_option maxRecDepth 100000
set_option linter.unusedSimpArgs false
open Go.RowKit
attribute [local go_sem ↓] Go.wp_at_zero Go.wp_at_succ

theorem form_of_optic {o : Ot} (h : opticB o = true) : formOt o = true := by
  unfold opticB at h
  simp only [Bool.and_eq_true] at h
  exact h.2

set_option maxHeartbeats 4000000 in
theorem typChecked_any {u : Value} {r : Option (Ty × Int)} (s : Ty) (o : Ot) (sv ov : Value) (w : World) (hU : UnfitAt w u) (hJ : JoinsAt w) (hv : OwnT w sv s) (ho : OwnO w ov o) (hs : szTy s ≤ 1048576) (hz : szOt o ≤ 1048576) (hr : r = opticTypeB s o) :
    Calls Tryz.prog 33 #[sv, ov] w (TypPost (fun _ => False) u r w) := by
  obtain ⟨N, hNe⟩ : ∃ N : Nat → Prop, N = fun _ => False := ⟨_, rfl⟩
  rw [← hNe]
  have hva := hv.any
  rw [← hNe] at hva
  obtain ⟨L, lc, A, ac, rfl⟩ := hva.open
  obtain ⟨B, bc, rfl, _⟩ := ho.open
  obtain ⟨hb0, p0, q0, zz0, hs0⟩ := boxes3 w 27 30 60 #[.int .i64 s.kind, .slice L s.labels.length lc, .slice A s.args.length ac] #[.int .i64 o.kind, .string o.name, .int .i64 o.num, .slice B o.args.length bc] #[.int .i64 0, .slice none 0 0, .slice none 0 0, .int .i64 0]
  have HV0 := Lib.hid ((hva.late (w.heap.size + 1 + 1) (by omega)).up hb0)
  have HO0 := Lib.hid (ho.up hb0)
  have HU0 := Lib.hid (hU.below hb0)
  have HJ0 := Lib.hid (hJ.below hb0)
  have HN0 := Lib.hid (show ∀ b, (N b ∨ b = w.heap.size + 1 + 1) → b < (((w.alloc (.cells #[.int .i64 s.kind, .slice L s.labels.length lc, .slice A s.args.length ac] 27)).alloc (.cells #[.int .i64 o.kind, .string o.name, .int .i64 o.num, .slice B o.args.length bc] 30)).alloc (.cells #[.int .i64 0, .slice none 0 0, .slice none 0 0, .int .i64 0] 60)).heap.size from fun b hb => hb.elim (fun hb => by rw [hNe] at hb; exact hb.elim) (fun e => e ▸ zz0.lt))
  have HVA := Lib.hid (implValid_any s _ _ HV0.out.own hs)
  have HOP := Lib.hid (fun W h => implIsOptic_any o (.agg #[.int .i64 o.kind, .string o.name, .int .i64 o.num, .slice B o.args.length bc]) W h (by have := size_le_szO o; omega))
  have HR := Lib.hid hr
  have HB0 := Lib.hid hb0
  have HZ0 := Lib.hid zz0
  have HP0 := Lib.hid p0
  have HQ0 := Lib.hid q0
  have HSZ := Lib.hid hz
  clear hr hva hv ho hJ hb0 zz0 p0 q0 hs0 hNe hs hz
  obtain ⟨hug, huc, ua, rfl⟩ := hU
  clear hug huc
  go_enter Tryz.func33, Tryz.ntmps33
  go_wp2_with fail
  generalize ((w.alloc (.cells #[.int .i64 s.kind, .slice L s.labels.length lc, .slice A s.args.length ac] 27)).alloc (.cells #[.int .i64 o.kind, .string o.name, .int .i64 o.num, .slice B o.args.length bc] 30)).alloc (.cells #[.int .i64 0, .slice none 0 0, .slice none 0 0, .int .i64 0] 60) = w0 at *
  cases hvs : validB s
  · rw [hvs] at HVA
    have HRN := Lib.hid (HR.out.trans (show opticTypeB s o = none by simp [opticTypeB, hvs]))
    clear hvs
    refine HVA.out.mono ?_
    rintro e w1 ⟨rfl, hb1⟩
    have HU1 := Lib.hid (HU0.out.below hb1)
    have HB1 := Lib.hid (HB0.out.trans (hb1.mono HB0.out.size))
    have HZ1 := Lib.hid (HZ0.out.below hb1 HZ0.out.lt)
    clear hb1
    have d0 : w1.cell? ⟨w.heap.size + 1 + 1, 0, none⟩ = some (.int .i64 0) := HZ1.out.cell 0
    have df0 : w1.frozen? ⟨w.heap.size + 1 + 1, 0, none⟩ = false := HZ1.out.free 0
    have d1 : w1.cell? ⟨w.heap.size + 1 + 1, 1, none⟩ = some (.slice none 0 0) := HZ1.out.cell 1
    have df1 : w1.frozen? ⟨w.heap.size + 1 + 1, 1, none⟩ = false := HZ1.out.free 1
    have d2 : w1.cell? ⟨w.heap.size + 1 + 1, 2, none⟩ = some (.slice none 0 0) := HZ1.out.cell 2
    have df2 : w1.frozen? ⟨w.heap.size + 1 + 1, 2, none⟩ = false := HZ1.out.free 2
    have d3 : w1.cell? ⟨w.heap.size + 1 + 1, 3, none⟩ = some (.int .i64 0) := HZ1.out.cell 3
    have df3 : w1.frozen? ⟨w.heap.size + 1 + 1, 3, none⟩ = false := HZ1.out.free 3
    have e0 : w1.drew.cell? ⟨w.heap.size + 1 + 1, 0, none⟩ = some (.int .i64 0) := d0
    have ef0 : w1.drew.frozen? ⟨w.heap.size + 1 + 1, 0, none⟩ = false := df0
    have e1 : w1.drew.cell? ⟨w.heap.size + 1 + 1, 1, none⟩ = some (.slice none 0 0) := d1
    have ef1 : w1.drew.frozen? ⟨w.heap.size + 1 + 1, 1, none⟩ = false := df1
    have e2 : w1.drew.cell? ⟨w.heap.size + 1 + 1, 2, none⟩ = some (.slice none 0 0) := d2
    have ef2 : w1.drew.frozen? ⟨w.heap.size + 1 + 1, 2, none⟩ = false := df2
    have e3 : w1.drew.cell? ⟨w.heap.size + 1 + 1, 3, none⟩ = some (.int .i64 0) := d3
    have ef3 : w1.drew.frozen? ⟨w.heap.size + 1 + 1, 3, none⟩ = false := df3
    have hu0 : w1.cell? ⟨0, 0, none⟩ = some (.iface 195 (.pointer (some ua))) := HU1.out.2.1
    have hud : w1.drew.cell? ⟨0, 0, none⟩ = some (.iface 195 (.pointer (some ua))) := hu0
    have HF := Lib.hid (typ_none (N := N) (u := (.iface 195 (.pointer (some ua)))) HB1.out HRN.out)
    have HG := Lib.hid (fun a b c d => typ_drew ((typ_none4 (N := N) (u := (.iface 195 (.pointer (some ua)))) (show w.heap.size ≤ w.heap.size + 1 + 1 by omega) HB1.out HRN.out a b c d)))
    go_wp2
    go_region
    go_wp2
    first | exact bodyPost_ret (v := .tuple #[.agg #[.int .i64 0, .slice none 0 0, .slice none 0 0, .int .i64 0], .iface 195 (.pointer (some ua))]) (by simp [results, Tryz.results33, go_sem, d0, d1, d2, d3, e0, e1, e2, e3]) rfl HF.out | exact bodyPost_ret (v := .tuple #[.agg #[.int .i64 0, .slice none 0 0, .slice none 0 0, .int .i64 0], .iface 195 (.pointer (some ua))]) (by simp [results, Tryz.results33, go_sem, d0, d1, d2, d3, e0, e1, e2, e3]) rfl (HG.out _ _ _ _)
  · rw [hvs] at HVA
    have HVS := Lib.hid hvs
    clear hvs
    refine HVA.out.mono ?_
    rintro e w1 ⟨rfl, hb1⟩
    have HD1 := Lib.hid hb1
    have HOP1 := Lib.hid (HOP.out w1 (HO0.out.up hb1))
    clear hb1
    have qo0 : w1.cell? ⟨w.heap.size + 1, 0, none⟩ = some (.int .i64 o.kind) := (HQ0.out.below HD1.out HQ0.out.lt).cell 0
    have qo1 : w1.cell? ⟨w.heap.size + 1, 1, none⟩ = some (.string o.name) := (HQ0.out.below HD1.out HQ0.out.lt).cell 1
    have qo2 : w1.cell? ⟨w.heap.size + 1, 2, none⟩ = some (.int .i64 o.num) := (HQ0.out.below HD1.out HQ0.out.lt).cell 2
    have qo3 : w1.cell? ⟨w.heap.size + 1, 3, none⟩ = some (.slice B o.args.length bc) := (HQ0.out.below HD1.out HQ0.out.lt).cell 3
    cases hvo : opticB o
    · rw [hvo] at HOP1
      have HRN := Lib.hid (HR.out.trans (show opticTypeB s o = none by simp [opticTypeB, hvo]))
      clear hvo
      go_wp2_with fail
      refine HOP1.out.mono ?_
      rintro e w2 ⟨rfl, hb2⟩
      have hd2 := HD1.out.trans (hb2.mono HD1.out.size)
      have HU2 := Lib.hid (HU0.out.below hd2)
      have HB2 := Lib.hid (HB0.out.trans (hd2.mono HB0.out.size))
      have HZ2 := Lib.hid (HZ0.out.below hd2 HZ0.out.lt)
      clear hb2 hd2 qo0 qo1 qo2 qo3
      have d0 : w2.cell? ⟨w.heap.size + 1 + 1, 0, none⟩ = some (.int .i64 0) := HZ2.out.cell 0
      have df0 : w2.frozen? ⟨w.heap.size + 1 + 1, 0, none⟩ = false := HZ2.out.free 0
      have d1 : w2.cell? ⟨w.heap.size + 1 + 1, 1, none⟩ = some (.slice none 0 0) := HZ2.out.cell 1
      have df1 : w2.frozen? ⟨w.heap.size + 1 + 1, 1, none⟩ = false := HZ2.out.free 1
      have d2 : w2.cell? ⟨w.heap.size + 1 + 1, 2, none⟩ = some (.slice none 0 0) := HZ2.out.cell 2
      have df2 : w2.frozen? ⟨w.heap.size + 1 + 1, 2, none⟩ = false := HZ2.out.free 2
      have d3 : w2.cell? ⟨w.heap.size + 1 + 1, 3, none⟩ = some (.int .i64 0) := HZ2.out.cell 3
      have df3 : w2.frozen? ⟨w.heap.size + 1 + 1, 3, none⟩ = false := HZ2.out.free 3
      have e0 : w2.drew.cell? ⟨w.heap.size + 1 + 1, 0, none⟩ = some (.int .i64 0) := d0
      have ef0 : w2.drew.frozen? ⟨w.heap.size + 1 + 1, 0, none⟩ = false := df0
      have e1 : w2.drew.cell? ⟨w.heap.size + 1 + 1, 1, none⟩ = some (.slice none 0 0) := d1
      have ef1 : w2.drew.frozen? ⟨w.heap.size + 1 + 1, 1, none⟩ = false := df1
      have e2 : w2.drew.cell? ⟨w.heap.size + 1 + 1, 2, none⟩ = some (.slice none 0 0) := d2
      have ef2 : w2.drew.frozen? ⟨w.heap.size + 1 + 1, 2, none⟩ = false := df2
      have e3 : w2.drew.cell? ⟨w.heap.size + 1 + 1, 3, none⟩ = some (.int .i64 0) := d3
      have ef3 : w2.drew.frozen? ⟨w.heap.size + 1 + 1, 3, none⟩ = false := df3
      have hu0 : w2.cell? ⟨0, 0, none⟩ = some (.iface 195 (.pointer (some ua))) := HU2.out.2.1
      have hud : w2.drew.cell? ⟨0, 0, none⟩ = some (.iface 195 (.pointer (some ua))) := hu0
      have HF := Lib.hid (typ_none (N := N) (u := (.iface 195 (.pointer (some ua)))) HB2.out HRN.out)
      have HG := Lib.hid (fun a b c d => typ_drew ((typ_none4 (N := N) (u := (.iface 195 (.pointer (some ua)))) (show w.heap.size ≤ w.heap.size + 1 + 1 by omega) HB2.out HRN.out a b c d)))
      go_wp2
      go_region
      go_wp2
      first | exact bodyPost_ret (v := .tuple #[.agg #[.int .i64 0, .slice none 0 0, .slice none 0 0, .int .i64 0], .iface 195 (.pointer (some ua))]) (by simp [results, Tryz.results33, go_sem, d0, d1, d2, d3, e0, e1, e2, e3]) rfl HF.out | exact bodyPost_ret (v := .tuple #[.agg #[.int .i64 0, .slice none 0 0, .slice none 0 0, .int .i64 0], .iface 195 (.pointer (some ua))]) (by simp [results, Tryz.results33, go_sem, d0, d1, d2, d3, e0, e1, e2, e3]) rfl (HG.out _ _ _ _)
    · rw [hvo] at HOP1
      have HRY := Lib.hid (HR.out.trans (show opticTypeB s o = typeO o s by simp [opticTypeB, HVS.out, hvo]))
      have hfo := form_of_optic hvo
      clear hvo
      go_wp2_with fail
      refine HOP1.out.mono ?_
      rintro e w2 ⟨rfl, hb2⟩
      have HD2 := Lib.hid (HD1.out.trans (hb2.mono HD1.out.size))
      have HC := Lib.hid (typOne_any o (fun b => N b ∨ b = w.heap.size + 1 + 1) (.iface 195 (.pointer (some ua))) r s (.agg #[.int .i64 s.kind, .slice L s.labels.length lc, .slice A s.args.length ac]) (.agg #[.int .i64 o.kind, .string o.name, .int .i64 o.num, .slice B o.args.length bc]) w2 (fun b hb => Nat.lt_of_lt_of_le (HN0.out b hb) HD2.out.size) (HU0.out.below HD2.out) (HJ0.out.below HD2.out) (HV0.out.up HD2.out) (HO0.out.up HD2.out).here HVS.out hfo HSZ.out HRY.out)
      clear hb2 hfo qo0 qo1 qo2 qo3
      have sp0 : w2.cell? ⟨w.heap.size, 0, none⟩ = some (.int .i64 s.kind) := (HP0.out.below HD2.out HP0.out.lt).cell 0
      have sp1 : w2.cell? ⟨w.heap.size, 1, none⟩ = some (.slice L s.labels.length lc) := (HP0.out.below HD2.out HP0.out.lt).cell 1
      have sp2 : w2.cell? ⟨w.heap.size, 2, none⟩ = some (.slice A s.args.length ac) := (HP0.out.below HD2.out HP0.out.lt).cell 2
      have qo0 : w2.cell? ⟨w.heap.size + 1, 0, none⟩ = some (.int .i64 o.kind) := (HQ0.out.below HD2.out HQ0.out.lt).cell 0
      have qo1 : w2.cell? ⟨w.heap.size + 1, 1, none⟩ = some (.string o.name) := (HQ0.out.below HD2.out HQ0.out.lt).cell 1
      have qo2 : w2.cell? ⟨w.heap.size + 1, 2, none⟩ = some (.int .i64 o.num) := (HQ0.out.below HD2.out HQ0.out.lt).cell 2
      have qo3 : w2.cell? ⟨w.heap.size + 1, 3, none⟩ = some (.slice B o.args.length bc) := (HQ0.out.below HD2.out HQ0.out.lt).cell 3
      go_wp2_with fail
      refine HC.out.mono ?_
      rintro e w3 ⟨L1, lc1, A1, ac1, t1, k1, x1, rfl, hv1, hb1, hs1, hor1⟩
      have hd3 := HD2.out.trans (hb1.mono HD2.out.size)
      have HF := Lib.hid (fun a b c d => typ_fin (r := r) (show w.heap.size ≤ w.heap.size + 1 + 1 by omega) (HB0.out.trans (hd3.mono HB0.out.size)) hv1 hs1 hor1 a b c d)
      have z3 := HZ0.out.below hd3 HZ0.out.lt
      clear sp0 sp1 sp2 qo0 qo1 qo2 qo3 HC
      have d0 : w3.cell? ⟨w.heap.size + 1 + 1, 0, none⟩ = some (.int .i64 0) := z3.cell 0
      have df0 : w3.frozen? ⟨w.heap.size + 1 + 1, 0, none⟩ = false := z3.free 0
      have d1 : w3.cell? ⟨w.heap.size + 1 + 1, 1, none⟩ = some (.slice none 0 0) := z3.cell 1
      have df1 : w3.frozen? ⟨w.heap.size + 1 + 1, 1, none⟩ = false := z3.free 1
      have d2 : w3.cell? ⟨w.heap.size + 1 + 1, 2, none⟩ = some (.slice none 0 0) := z3.cell 2
      have df2 : w3.frozen? ⟨w.heap.size + 1 + 1, 2, none⟩ = false := z3.free 2
      have d3 : w3.cell? ⟨w.heap.size + 1 + 1, 3, none⟩ = some (.int .i64 0) := z3.cell 3
      have df3 : w3.frozen? ⟨w.heap.size + 1 + 1, 3, none⟩ = false := z3.free 3
      clear hd3 z3 hv1 hs1 hor1 hb1
      go_wp2
      exact bodyPost_ret (v := .tuple #[.agg #[.int .i64 t1.kind, .slice L1 t1.labels.length lc1, .slice A1 t1.args.length ac1, .int .i64 k1], x1]) (by simp [results, Tryz.results33, go_sem, d0, d1, d2, d3]) rfl (HF.out _ _ _ _)

set_option maxHeartbeats 4000000 in
theorem implIsTyped_any (s : Ty) (o : Ot) {u : Value} (sv ov : Value) (w : World) (hU : UnfitAt w u) (hJ : JoinsAt w) (hv : OwnT w sv s) (ho : OwnO w ov o) (hs : szTy s ≤ 1048576) (hz : szOt o ≤ 1048576) :
    Calls Tryz.prog 12 #[sv, ov] w (BoolIs (opticTypeB s o).isSome w) := by
  obtain ⟨L, lc, A, ac, hsv⟩ := hv.any.open
  subst hsv
  obtain ⟨B, bc, hov, _⟩ := ho.open
  subst hov
  obtain ⟨hb0, p0, q0, hs0⟩ := boxes2 w 27 30 #[.int .i64 s.kind, .slice L s.labels.length lc, .slice A s.args.length ac] #[.int .i64 o.kind, .string o.name, .int .i64 o.num, .slice B o.args.length bc]
  have HU0 := Lib.hid (hU.below hb0)
  obtain ⟨hug, huc, ua, rfl⟩ := hU
  obtain ⟨r, hr⟩ : ∃ r, r = opticTypeB s o := ⟨_, rfl⟩
  rw [← hr]
  have HC := Lib.hid (typChecked_any (r := r) s o _ _ _ HU0.out (hJ.below hb0) (hv.up hb0) (ho.up hb0) hs hz hr)
  have HB0 := Lib.hid hb0
  clear hv ho hJ hb0 hs hz hug huc hr p0 q0 hs0
  go_enter Tryz.func12, Tryz.ntmps12
  go_wp2_with fail
  generalize (w.alloc (.cells #[.int .i64 s.kind, .slice L s.labels.length lc, .slice A s.args.length ac] 27)).alloc (.cells #[.int .i64 o.kind, .string o.name, .int .i64 o.num, .slice B o.args.length bc] 30) = w0 at *
  refine HC.out.mono ?_
  rintro e w1 ⟨L1, lc1, A1, ac1, t1, k1, x1, rfl, hv1, hb1, hs1, hor1⟩
  have hx1 := (Below.refl w1.heap.size w1).alloc (Nat.le_refl _) (.cells #[.int .i64 t1.kind, .slice L1 t1.labels.length lc1, .slice A1 t1.args.length ac1, .int .i64 k1] 60)
  have hd1 := hb1.trans (hx1.mono hb1.size)
  have HN1 := Lib.hid (show Whole1 (w1.alloc (.cells #[.int .i64 t1.kind, .slice L1 t1.labels.length lc1, .slice A1 t1.args.length ac1, .int .i64 k1] 60)) w1.heap.size 60 #[.int .i64 t1.kind, .slice L1 t1.labels.length lc1, .slice A1 t1.args.length ac1, .int .i64 k1] from Whole1.new _ _ _)
  have HV1 := Lib.hid (hv1.up hx1)
  have HB1 := Lib.hid (HB0.out.trans (hd1.mono HB0.out.size))
  have HU1 := Lib.hid (HU0.out.below hd1)
  have HS1 := Lib.hid hs1
  have HD1 := Lib.hid hd1
  clear hx1 hd1 hv1 hb1 hs1 HC
  go_upto_region 2 with fail
  generalize (w1.alloc (.cells #[.int .i64 t1.kind, .slice L1 t1.labels.length lc1, .slice A1 t1.args.length ac1, .int .i64 k1] 60)) = W1 at *
  have hu0 : W1.cell? ⟨0, 0, none⟩ = some (.iface 195 (.pointer (some ua))) := HU1.out.2.1
  rcases hor1 with ⟨rn, rfl⟩ | ⟨rs, rfl⟩
  · have HR := Lib.hid rn
    clear rn
    go_wp2_with fail
    refine (errIs_same ua _).mono ?_
    rintro e w2 ⟨rfl, rfl⟩
    go_wp2
    go_ret
    exact ⟨by rw [HR.out]; rfl, HB1.out⟩
  · have HR := Lib.hid rs
    clear rs
    go_wp2_with fail
    refine (errIs_nil ua _).mono ?_
    rintro e w2 ⟨rfl, rfl⟩
    go_wp2
    go_ret
    exact ⟨by rw [HR.out]; rfl, HB1.out⟩

set_option maxHeartbeats 4000000 in
theorem implOpticType_any (s : Ty) (o : Ot) {u : Value} (sv ov : Value) (w : World) (hU : UnfitAt w u) (hJ : JoinsAt w) (hv : OwnT w sv s) (ho : OwnO w ov o) (hs : szTy s ≤ 1048576) (hz : szOt o ≤ 1048576) :
    Calls Tryz.prog 8 #[sv, ov] w (TypePost (tyO (opticTypeB s o)) (kdO (opticTypeB s o)) (opticTypeB s o).isSome w) := by
  obtain ⟨L, lc, A, ac, hsv⟩ := hv.any.open
  subst hsv
  obtain ⟨B, bc, hov, _⟩ := ho.open
  subst hov
  obtain ⟨hb0, p0, q0, zz0, hs0⟩ := boxes3 w 27 30 27 #[.int .i64 s.kind, .slice L s.labels.length lc, .slice A s.args.length ac] #[.int .i64 o.kind, .string o.name, .int .i64 o.num, .slice B o.args.length bc] #[.int .i64 0, .slice none 0 0, .slice none 0 0]
  have HZ0 := Lib.hid zz0
  have HU0 := Lib.hid (hU.below hb0)
  obtain ⟨hug, huc, ua, rfl⟩ := hU
  obtain ⟨r, hr⟩ : ∃ r, r = opticTypeB s o := ⟨_, rfl⟩
  rw [← hr]
  have HC := Lib.hid (typChecked_any (r := r) s o _ _ _ HU0.out (hJ.below hb0) (hv.up hb0) (ho.up hb0) hs hz hr)
  have HB0 := Lib.hid hb0
  clear hv ho hJ hb0 hs hz hug huc hr p0 q0 zz0 hs0
  go_enter Tryz.func8, Tryz.ntmps8
  go_wp2_with fail
  generalize ((w.alloc (.cells #[.int .i64 s.kind, .slice L s.labels.length lc, .slice A s.args.length ac] 27)).alloc (.cells #[.int .i64 o.kind, .string o.name, .int .i64 o.num, .slice B o.args.length bc] 30)).alloc (.cells #[.int .i64 0, .slice none 0 0, .slice none 0 0] 27) = w0 at *
  refine HC.out.mono ?_
  rintro e w1 ⟨L1, lc1, A1, ac1, t1, k1, x1, rfl, hv1, hb1, hs1, hor1⟩
  have hx1 := (Below.refl w1.heap.size w1).alloc (Nat.le_refl _) (.cells #[.int .i64 t1.kind, .slice L1 t1.labels.length lc1, .slice A1 t1.args.length ac1, .int .i64 k1] 60)
  have hd1 := hb1.trans (hx1.mono hb1.size)
  have HN1 := Lib.hid (show Whole1 (w1.alloc (.cells #[.int .i64 t1.kind, .slice L1 t1.labels.length lc1, .slice A1 t1.args.length ac1, .int .i64 k1] 60)) w1.heap.size 60 #[.int .i64 t1.kind, .slice L1 t1.labels.length lc1, .slice A1 t1.args.length ac1, .int .i64 k1] from Whole1.new _ _ _)
  have HV1 := Lib.hid (hv1.up hx1)
  have HB1 := Lib.hid (HB0.out.trans (hd1.mono HB0.out.size))
  have HU1 := Lib.hid (HU0.out.below hd1)
  have HS1 := Lib.hid hs1
  have HZ1 := Lib.hid (HZ0.out.below hd1 HZ0.out.lt)
  have hne : w.heap.size + 1 + 1 ≠ w1.heap.size := by have := HZ0.out.lt; have := hb1.size; omega
  have HD1 := Lib.hid hd1
  clear hx1 hd1 hv1 hb1 hs1 HC
  go_upto_region 2 with fail
  generalize (w1.alloc (.cells #[.int .i64 t1.kind, .slice L1 t1.labels.length lc1, .slice A1 t1.args.length ac1, .int .i64 k1] 60)) = W1 at *
  have hu0 : W1.cell? ⟨0, 0, none⟩ = some (.iface 195 (.pointer (some ua))) := HU1.out.2.1
  rcases hor1 with ⟨rn, rfl⟩ | ⟨rs, rfl⟩
  · have HF := Lib.hid (fun x y z => (show TypePost (tyO r) (kdO r) r.isSome w (.returned (.tuple #[.agg #[.int .i64 0, .slice none 0 0, .slice none 0 0], .int .i64 0, .bool false])) (((W1.setCell ⟨w.heap.size + 1 + 1, 0, none⟩ x).setCell ⟨w.heap.size + 1 + 1, 1, none⟩ y).setCell ⟨w.heap.size + 1 + 1, 2, none⟩ z) from by
      rw [rn]
      exact ⟨_, rfl, zero_in _ _, ((HB1.out.setCell (p := ⟨w.heap.size + 1 + 1, 0, none⟩) (by show w.heap.size ≤ w.heap.size + 1 + 1; omega) _).setCell (p := ⟨w.heap.size + 1 + 1, 1, none⟩) (by show w.heap.size ≤ w.heap.size + 1 + 1; omega) _).setCell (p := ⟨w.heap.size + 1 + 1, 2, none⟩) (by show w.heap.size ≤ w.heap.size + 1 + 1; omega) _⟩))
    have HG := Lib.hid (show TypePost (tyO r) (kdO r) r.isSome w (.returned (.tuple #[.agg #[.int .i64 0, .slice none 0 0, .slice none 0 0], .int .i64 0, .bool false])) W1 from by
      rw [rn]
      exact ⟨_, rfl, zero_in _ _, HB1.out⟩)
    have d0 : W1.cell? ⟨w.heap.size + 1 + 1, 0, none⟩ = some (.int .i64 0) := HZ1.out.cell 0
    have df0 : W1.frozen? ⟨w.heap.size + 1 + 1, 0, none⟩ = false := HZ1.out.free 0
    have d1 : W1.cell? ⟨w.heap.size + 1 + 1, 1, none⟩ = some (.slice none 0 0) := HZ1.out.cell 1
    have df1 : W1.frozen? ⟨w.heap.size + 1 + 1, 1, none⟩ = false := HZ1.out.free 1
    have d2 : W1.cell? ⟨w.heap.size + 1 + 1, 2, none⟩ = some (.slice none 0 0) := HZ1.out.cell 2
    have df2 : W1.frozen? ⟨w.heap.size + 1 + 1, 2, none⟩ = false := HZ1.out.free 2
    clear rn hne
    go_wp2_with fail
    refine (errIs_same ua _).mono ?_
    rintro e w2 ⟨rfl, rfl⟩
    go_wp2
    first | exact bodyPost_ret (v := .tuple #[.agg #[.int .i64 0, .slice none 0 0, .slice none 0 0], .int .i64 0, .bool false]) (by simp [results, Tryz.results8, go_sem, d0, d1, d2]) rfl HG.out | exact bodyPost_ret (v := .tuple #[.agg #[.int .i64 0, .slice none 0 0, .slice none 0 0], .int .i64 0, .bool false]) (by simp [results, Tryz.results8, go_sem, d0, d1, d2]) rfl (HF.out _ _ _)
  · have HR := Lib.hid rs
    have hl1 := HN1.out.lt
    have hzl : w.heap.size + 1 + 1 < W1.heap.size := HZ1.out.lt
    have HCP := Lib.hid (copyType_any t1 _ _ HV1.out.drew.own.here (by have := HS1.out; omega))
    have HPP := Lib.hid (show tyO r = t1 ∧ kdO r = k1 ∧ r.isSome = true by rw [rs]; exact ⟨rfl, rfl, rfl⟩)
    clear rs
    go_wp2_with fail
    refine (errIs_nil ua _).mono ?_
    rintro e w2 ⟨rfl, hw2⟩
    rw [hw2]
    clear hw2 w2
    go_upto_region 4 with fail
    have fa0 : W1.drew.cell? ⟨w1.heap.size, 0, none⟩ = some (.int .i64 t1.kind) := (HN1.out.cell 0)
    have fa1 : W1.drew.cell? ⟨w1.heap.size, 1, none⟩ = some (.slice L1 t1.labels.length lc1) := (HN1.out.cell 1)
    have fa2 : W1.drew.cell? ⟨w1.heap.size, 2, none⟩ = some (.slice A1 t1.args.length ac1) := (HN1.out.cell 2)
    have fa3 : W1.drew.cell? ⟨w1.heap.size, 3, none⟩ = some (.int .i64 k1) := (HN1.out.cell 3)
    go_region_held3 (fun x' : World => x'.cell? ⟨w1.heap.size, 0, none⟩ = some (.int .i64 t1.kind) ∧ x'.cell? ⟨w1.heap.size, 1, none⟩ = some (.slice L1 t1.labels.length lc1) ∧ x'.cell? ⟨w1.heap.size, 2, none⟩ = some (.slice A1 t1.args.length ac1) ∧ x'.cell? ⟨w1.heap.size, 3, none⟩ = some (.int .i64 k1)) (first | with_reducible exact ⟨fa0, fa1, fa2, fa3⟩ | with_reducible exact ⟨fk0, fk1, fk2, fk3⟩ | with_reducible exact ⟨fl0, fl1, fl2, fl3⟩ | go_keep) (first | (go_simp; go_at_call 35; (with_reducible refine HCP.out.mono ?_); rintro e w9 ⟨v9, rfl, hv9, hb9'⟩; have HV9 := Lib.hid hv9; obtain ⟨L2, lc2, A2, ac2, _, rfl, _⟩ := hv9.open; have hb9 := (Below.refl W1.heap.size W1).drew.trans hb9'; have fk0 : w9.cell? ⟨w1.heap.size, 0, none⟩ = some (.int .i64 t1.kind) := (hb9.cell (p := ⟨w1.heap.size, 0, none⟩) hl1).trans (HN1.out.cell 0); have fl0 : (((w9.setCell ⟨w.heap.size + 1 + 1, 0, none⟩ (.int .i64 t1.kind)).setCell ⟨w.heap.size + 1 + 1, 1, none⟩ (.slice L2 t1.labels.length lc2)).setCell ⟨w.heap.size + 1 + 1, 2, none⟩ (.slice A2 t1.args.length ac2)).cell? ⟨w1.heap.size, 0, none⟩ = some (.int .i64 t1.kind) := set3_far _ _ _ _ fk0 hne; have fk1 : w9.cell? ⟨w1.heap.size, 1, none⟩ = some (.slice L1 t1.labels.length lc1) := (hb9.cell (p := ⟨w1.heap.size, 1, none⟩) hl1).trans (HN1.out.cell 1); have fl1 : (((w9.setCell ⟨w.heap.size + 1 + 1, 0, none⟩ (.int .i64 t1.kind)).setCell ⟨w.heap.size + 1 + 1, 1, none⟩ (.slice L2 t1.labels.length lc2)).setCell ⟨w.heap.size + 1 + 1, 2, none⟩ (.slice A2 t1.args.length ac2)).cell? ⟨w1.heap.size, 1, none⟩ = some (.slice L1 t1.labels.length lc1) := set3_far _ _ _ _ fk1 hne; have fk2 : w9.cell? ⟨w1.heap.size, 2, none⟩ = some (.slice A1 t1.args.length ac1) := (hb9.cell (p := ⟨w1.heap.size, 2, none⟩) hl1).trans (HN1.out.cell 2); have fl2 : (((w9.setCell ⟨w.heap.size + 1 + 1, 0, none⟩ (.int .i64 t1.kind)).setCell ⟨w.heap.size + 1 + 1, 1, none⟩ (.slice L2 t1.labels.length lc2)).setCell ⟨w.heap.size + 1 + 1, 2, none⟩ (.slice A2 t1.args.length ac2)).cell? ⟨w1.heap.size, 2, none⟩ = some (.slice A1 t1.args.length ac1) := set3_far _ _ _ _ fk2 hne; have fk3 : w9.cell? ⟨w1.heap.size, 3, none⟩ = some (.int .i64 k1) := (hb9.cell (p := ⟨w1.heap.size, 3, none⟩) hl1).trans (HN1.out.cell 3); have fl3 : (((w9.setCell ⟨w.heap.size + 1 + 1, 0, none⟩ (.int .i64 t1.kind)).setCell ⟨w.heap.size + 1 + 1, 1, none⟩ (.slice L2 t1.labels.length lc2)).setCell ⟨w.heap.size + 1 + 1, 2, none⟩ (.slice A2 t1.args.length ac2)).cell? ⟨w1.heap.size, 3, none⟩ = some (.int .i64 k1) := set3_far _ _ _ _ fk3 hne; have z9 := HZ1.out.below hb9 HZ1.out.lt; have d0 : w9.cell? ⟨w.heap.size + 1 + 1, 0, none⟩ = some (.int .i64 0) := z9.cell 0; have df0 : w9.frozen? ⟨w.heap.size + 1 + 1, 0, none⟩ = false := z9.free 0; have d1 : w9.cell? ⟨w.heap.size + 1 + 1, 1, none⟩ = some (.slice none 0 0) := z9.cell 1; have df1 : w9.frozen? ⟨w.heap.size + 1 + 1, 1, none⟩ = false := z9.free 1; have d2 : w9.cell? ⟨w.heap.size + 1 + 1, 2, none⟩ = some (.slice none 0 0) := z9.cell 2; have df2 : w9.frozen? ⟨w.heap.size + 1 + 1, 2, none⟩ = false := z9.free 2; have HF := Lib.hid (fun x y z => (show TypePost (tyO r) (kdO r) r.isSome w (.returned (.tuple #[.agg #[.int .i64 t1.kind, .slice L2 t1.labels.length lc2, .slice A2 t1.args.length ac2], .int .i64 k1, .bool true])) (((w9.setCell ⟨w.heap.size + 1 + 1, 0, none⟩ x).setCell ⟨w.heap.size + 1 + 1, 1, none⟩ y).setCell ⟨w.heap.size + 1 + 1, 2, none⟩ z) from by rw [HPP.out.1, HPP.out.2.1, HPP.out.2.2]; exact ⟨_, rfl, (set3_in HV9.out hzl (by omega) (HB1.out.trans (hb9.mono HB1.out.size)) x y z).1, (set3_in HV9.out hzl (by omega) (HB1.out.trans (hb9.mono HB1.out.size)) x y z).2⟩)); clear hb9' hb9 z9 hv9))
    all_goals go_wp2
    all_goals exact bodyPost_ret (v := .tuple #[.agg #[.int .i64 t1.kind, .slice L2 t1.labels.length lc2, .slice A2 t1.args.length ac2], .int .i64 k1, .bool true]) (by simp [results, Tryz.results8, go_sem, d0, d1, d2]) rfl (HF.out _ _ _)

end Go.Proofs.YthdfidhijmcbdaaGreatDoor
end

section
namespace Go.Proofs.YthdfidhijmcbdaaGreatDoor
set_option maxRecDepth 100000
open Go.ChangeShapes Go.WideShapes Go.ChangeAt Go.RowKit

theorem cellsJoinRow : Tryz.prog.cellsOf 186 = 6 := by kernel_rfl
theorem cellsJoins : Tryz.prog.cellsOf 190 = 36 := by kernel_rfl
theorem cellsIntJ : Tryz.prog.cellsOf 3 = 1 := by kernel_rfl

theorem joinRow_cells {W : World} {cs : List Value} {fuel : Nat} {a b c d e f : Int} {p : List MemPlace} (h : DataW.trod (fun _ => ()) Tryz.prog W 0 (fun _ => true) false fuel 186 cs = some (.agg [.lit (.int .i64 a), .lit (.int .i64 b), .lit (.int .i64 c), .lit (.int .i64 d), .lit (.int .i64 e), .lit (.int .i64 f)], p)) :
    cs = [.int .i64 a, .int .i64 b, .int .i64 c, .int .i64 d, .int .i64 e, .int .i64 f] := by
  obtain ⟨xs, n, rfl, ex, hlen, hxl, hel⟩ := DataW.trod_array Tryz.underlying186 h
  rw [cellsJoinRow] at hlen
  rw [cellsIntJ] at hel
  have e3 := (DataW.agg.inj (Prod.mk.inj ex).1)
  match cs, hlen with
  | [c0, c1, c2, c3, c4, c5], _ =>
  match xs, hxl with
  | [x0, x1, x2, x3, x4, x5], _ =>
  simp only [List.map_cons, List.map_nil, List.cons.injEq, and_true] at e3
  obtain ⟨e0, e1, e2, e3, e4, e5⟩ := e3
  have h0 : DataW.trod (fun _ => ()) Tryz.prog W 0 (fun _ => true) false n 3 [c0] = some x0 := hel 0 (by omega)
  obtain ⟨n0, k0, l0, _⟩ := DataW.trod_int Tryz.underlying3 h0
  simp at k0
  subst k0
  rw [l0] at e0
  simp at e0
  have h1 : DataW.trod (fun _ => ()) Tryz.prog W 0 (fun _ => true) false n 3 [c1] = some x1 := hel 1 (by omega)
  obtain ⟨n1, k1, l1, _⟩ := DataW.trod_int Tryz.underlying3 h1
  simp at k1
  subst k1
  rw [l1] at e1
  simp at e1
  have h2 : DataW.trod (fun _ => ()) Tryz.prog W 0 (fun _ => true) false n 3 [c2] = some x2 := hel 2 (by omega)
  obtain ⟨n2, k2, l2, _⟩ := DataW.trod_int Tryz.underlying3 h2
  simp at k2
  subst k2
  rw [l2] at e2
  simp at e2
  have h3 : DataW.trod (fun _ => ()) Tryz.prog W 0 (fun _ => true) false n 3 [c3] = some x3 := hel 3 (by omega)
  obtain ⟨n3, k3, l3, _⟩ := DataW.trod_int Tryz.underlying3 h3
  simp at k3
  subst k3
  rw [l3] at e3
  simp at e3
  have h4 : DataW.trod (fun _ => ()) Tryz.prog W 0 (fun _ => true) false n 3 [c4] = some x4 := hel 4 (by omega)
  obtain ⟨n4, k4, l4, _⟩ := DataW.trod_int Tryz.underlying3 h4
  simp at k4
  subst k4
  rw [l4] at e4
  simp at e4
  have h5 : DataW.trod (fun _ => ()) Tryz.prog W 0 (fun _ => true) false n 3 [c5] = some x5 := hel 5 (by omega)
  obtain ⟨n5, k5, l5, _⟩ := DataW.trod_int Tryz.underlying3 h5
  simp at k5
  subst k5
  rw [l5] at e5
  simp at e5
  subst e0 e1 e2 e3 e4 e5
  rfl

def joinChunk (q : Nat) : List Value := (joinCells.drop (q * 6)).take 6

theorem joinsAt_of {W : World} {L : List (String × DataW Unit)} (hm : ("loop.example/g00592/impl.kindJoins", Rows.laid_loop_example_g00592_impl_kindJoins) ∈ L) (h : laidMet Tryz.prog L W) : JoinsAt W := by
  obtain ⟨ps, hv, _⟩ := h
  obtain ⟨g', t', cs, fuel, p, hg', ht', hvar, hd⟩ := laidVars_mem hv hm
  obtain rfl := Option.some.inj ((show Tryz.prog.globalNamed "loop.example/g00592/impl.kindJoins" = some 1 by kernel_rfl).symm.trans hg')
  obtain rfl := Option.some.inj ((show (Tryz.prog.globals[1]?).map (·.type) = some 190 by kernel_rfl).symm.trans ht')
  obtain ⟨xs, m, _, ex, hlen, hl, hel⟩ := DataW.trod_array Tryz.underlying190 hd
  rw [cellsJoins] at hlen
  rw [cellsJoinRow] at hel
  have e3 := (DataW.agg.inj (Prod.mk.inj ex).1)
  match xs, hl with
  | [x0, x1, x2, x3, x4, x5], _ =>
  simp only [List.map_cons, List.map_nil, List.cons.injEq, and_true] at e3
  obtain ⟨e0, e1, e2, e3, e4, e5⟩ := e3
  have hc : ∀ q, q < 6 → (cs.toList.drop (q * 6)).take 6 = joinChunk q := by
    intro q hq
    have hq6 : q = 0 ∨ q = 1 ∨ q = 2 ∨ q = 3 ∨ q = 4 ∨ q = 5 := by omega
    rcases hq6 with rfl | rfl | rfl | rfl | rfl | rfl
    · have := hel 0 (by omega)
      simp only [List.getElem?_cons_zero] at this
      rw [show x0 = (x0.1, x0.2) from rfl, ← e0] at this
      exact joinRow_cells this
    · have := hel 1 (by omega)
      simp only [List.getElem?_cons_zero, List.getElem?_cons_succ] at this
      rw [show x1 = (x1.1, x1.2) from rfl, ← e1] at this
      exact joinRow_cells this
    · have := hel 2 (by omega)
      simp only [List.getElem?_cons_zero, List.getElem?_cons_succ] at this
      rw [show x2 = (x2.1, x2.2) from rfl, ← e2] at this
      exact joinRow_cells this
    · have := hel 3 (by omega)
      simp only [List.getElem?_cons_zero, List.getElem?_cons_succ] at this
      rw [show x3 = (x3.1, x3.2) from rfl, ← e3] at this
      exact joinRow_cells this
    · have := hel 4 (by omega)
      simp only [List.getElem?_cons_zero, List.getElem?_cons_succ] at this
      rw [show x4 = (x4.1, x4.2) from rfl, ← e4] at this
      exact joinRow_cells this
    · have := hel 5 (by omega)
      simp only [List.getElem?_cons_zero, List.getElem?_cons_succ] at this
      rw [show x5 = (x5.1, x5.2) from rfl, ← e5] at this
      exact joinRow_cells this
  have hcell : ∀ i, i < 36 → W.cell? ⟨1, i, none⟩ = cs[i]? ∧ 1 < W.heap.size := by
    intro i hi
    unfold World.var? at hvar
    rw [show Tryz.prog.globalNamed "loop.example/g00592/impl.kindJoins" = some 1 by kernel_rfl] at hvar
    simp only [Option.bind_some] at hvar
    cases hh : W.heap[1]? with
    | none => rw [hh] at hvar; cases hvar
    | some ob =>
      rw [hh] at hvar
      cases ob with
      | cells cs' t' r =>
        cases hvar
        exact ⟨by simp [World.cell?, hh], (Array.getElem?_eq_some_iff.1 hh).1⟩
      | _ => cases hvar
  refine ⟨(hcell 0 (by omega)).2, fun i hi => (hcell i hi).1.trans ?_⟩
  have h1 := congrArg (·[i % 6]?) (hc (i / 6) (by omega))
  simp only [joinChunk, List.getElem?_take, List.getElem?_drop] at h1
  rw [if_pos (by omega), if_pos (by omega), show i / 6 * 6 + i % 6 = i by omega] at h1
  simpa using h1

end Go.Proofs.YthdfidhijmcbdaaGreatDoor
end

section
namespace Go.Proofs.YthdfidhijmcbdaaGreatDoor
set_option maxRecDepth 100000
open Go.ChangeShapes Go.WideShapes Go.ChangeAt Go.RowKit

theorem errStar : "*" ++ "errors.errorString" = "*errors.errorString" := by decide
theorem unfitRow (u : TypeId) (h : Tryz.prog.typeName? 3 u = some "*errors.errorString") : u = 195 :=
  typeName_ptr_named (nm := "errors.errorString") (by rw [errStar]; kernel_rfl) (by kernel_rfl) (by decide) u (by rw [errStar]; exact h)

theorem cellsErr : Tryz.prog.cellsOf 220 = 1 := by kernel_rfl
theorem cellsErrText : Tryz.prog.cellsOf 9 = 1 := by kernel_rfl
theorem unfitAt_of {W : World} {r : List (String × DataW Unit)} (h : laidMet Tryz.prog (("loop.example/g00592/impl.errUnfit", Rows.laid_loop_example_g00592_impl_errUnfit) :: r) W) : ∃ u, UnfitAt W u := by
  obtain ⟨a, s, hv, _⟩ := Go.laid_sentinel h (show Tryz.prog.globalNamed "loop.example/g00592/impl.errUnfit" = some 0 by kernel_rfl) (show (Tryz.prog.globals[0]?).map (·.type) = some 62 by kernel_rfl) Tryz.underlying62 unfitRow Tryz.underlying195 Tryz.underlying220 rfl rfl Tryz.underlying9 cellsErr cellsErrText
  refine ⟨_, ?_, ?_, a, rfl⟩
  · unfold World.var? at hv
    rw [show Tryz.prog.globalNamed "loop.example/g00592/impl.errUnfit" = some 0 by kernel_rfl] at hv
    simp only [Option.bind_some] at hv
    cases hh : W.heap[0]? with
    | none => rw [hh] at hv; cases hv
    | some ob => exact (Array.getElem?_eq_some_iff.1 hh).1
  · exact World.var?_cell (show Tryz.prog.globalNamed "loop.example/g00592/impl.errUnfit" = some 0 by kernel_rfl) hv 0

end Go.Proofs.YthdfidhijmcbdaaGreatDoor
end
