/- FnExactFormatType: for every type the law of FormatType hands back true, and its argument reads as it did. No condition. -/
import Derived.Test.YtmacbkcjeamaeaaRows
import Derived.Test.YtmacbkcjeamaeaaLaw
import Derived.Test.YtmacbkcjeamaeaaOpenTy
import Derived.Test.YtmacbkcjeamaeaaSzTy
import Derived.Test.YtmacbkcjeamaeaaGather
import Derived.Test.YtmacbkcjeamaeaaEqTy
import Derived.Test.YtmacbkcjeamaeaaSpecText
import Derived.Test.YtmacbkcjeamaeaaImplSize
import Derived.Test.YtmacbkcjeamaeaaImplFormatT
import Derived.Test.YtmacbkcjeamaeaaImplEqual
namespace Go.Proofs.Ytmacbkcjeamaeaa.lawFormatType
open Go.ChangeShapes Go.WideShapes Go.ChangeAt Go.RowKit
open Go.ChangeMaps (open_string shut_string)

set_option maxHeartbeats 2000000 in
set_option maxRecDepth 100000 in
theorem walk (t : Ty) (va : Value) (w : World) (ha0 : TyAt w w.heap.size va t) :
    Calls Try.prog 4 #[va] w (TrueBelow w) := by
  obtain ⟨L0, lc0, A0, ac0, rfl, _⟩ := ha0.open
  obtain ⟨hb1, p1, hz1⟩ := boxes1 w 37 #[.int .i64 t.kind, .slice L0 t.labels.length lc0, .slice A0 t.args.length ac0]
  go_enter Try.func4, Try.ntmps4
  go_wp2_with fail
  generalize w.alloc (.cells #[.int .i64 t.kind, .slice L0 t.labels.length lc0, .slice A0 t.args.length ac0] 37) = w1 at *
  have HZ1 := Lib.hid hz1
  clear hz1
  have cb1 := hb1
  have ha1 := ha0.up hb1
  clear ha0
  refine (szTy_any t _ 1048576 w1 ha1 (by omega) (by omega)).mono ?_
  rintro e w2 ⟨rfl, hb2⟩
  have cb2 := cb1.trans (hb2.mono cb1.size)
  have ha2 := ha1.up hb2
  have p2 := p1.below hb2 p1.lt
  clear ha1 p1
  by_cases hneg : (1048576 : Int) - szTy t < 0
  · rw [show leftOf 1048576 (szTy t) = -1 from by unfold leftOf; rw [if_pos hneg]]
    go_wp2
    go_ret
    exact ⟨rfl, cb2⟩
  · have hsz : szTy t ≤ 1048576 := by omega
    have hq2 : ¬ leftOf 1048576 (szTy t) < 0 := by unfold leftOf; rw [if_neg hneg]; exact hneg
    generalize leftOf 1048576 (szTy t) = lf at *
    have HS := Lib.hid (fun V W h => specFormat_any t V W h hsz)
    have HI := Lib.hid (fun V W h => implFormat_any t V W h hsz)
    generalize formatB t = x at *
    have cp0 : w2.cell? ⟨w.heap.size, 0, none⟩ = some (.int .i64 t.kind) := p2.cell 0
    have cp1 : w2.cell? ⟨w.heap.size, 1, none⟩ = some (.slice L0 t.labels.length lc0) := p2.cell 1
    have cp2 : w2.cell? ⟨w.heap.size, 2, none⟩ = some (.slice A0 t.args.length ac0) := p2.cell 2
    go_wp2_with fail
    clear cp0 cp1 cp2
    refine (toType_any t _ w2 ha2 hsz).mono ?_
    rintro e w3 ⟨x1, rfl, hx3, hb3⟩
    have cb3 := cb2.trans (hb3.mono cb2.size)
    have ha3 := ha2.up hb3
    have p3 := p2.below hb3 p2.lt
    clear ha2 p2
    have hX3 := hx3.here
    clear hx3
    go_wp2_with fail
    refine (HS.out x1 w3 hX3).mono ?_
    rintro e w4 ⟨rfl, hb4⟩
    have cb4 := cb3.trans (hb4.mono cb3.size)
    have ha4 := ha3.up hb4
    have p4 := p3.below hb4 p3.lt
    have hX4 := hX3.up hb4
    clear ha3 p3 hX3
    have cp0 : w4.cell? ⟨w.heap.size, 0, none⟩ = some (.int .i64 t.kind) := p4.cell 0
    have cp1 : w4.cell? ⟨w.heap.size, 1, none⟩ = some (.slice L0 t.labels.length lc0) := p4.cell 1
    have cp2 : w4.cell? ⟨w.heap.size, 2, none⟩ = some (.slice A0 t.args.length ac0) := p4.cell 2
    go_wp2_with fail
    clear cp0 cp1 cp2
    refine (toType_any t _ w4 ha4 hsz).mono ?_
    rintro e w5 ⟨x2, rfl, hy5, hb5⟩
    have cb5 := cb4.trans (hb5.mono cb4.size)
    have ha5 := ha4.up hb5
    have p5 := p4.below hb5 p4.lt
    have hX5 := hX4.up hb5
    clear ha4 p4 hX4
    obtain ⟨Lx, lx, Ax, ax, _, rfl, _⟩ := hy5.open
    have hxT5 := hy5.here
    have hxO5 := OwnT.of hy5
    clear hy5
    obtain ⟨hb6, px6, hz6⟩ := boxes1 w5 27 #[.int .i64 t.kind, .slice Lx t.labels.length lx, .slice Ax t.args.length ax]
    go_wp2_with fail
    generalize w5.alloc (.cells #[.int .i64 t.kind, .slice Lx t.labels.length lx, .slice Ax t.args.length ax] 27) = w6 at *
    have HZ6 := Lib.hid hz6
    clear hz6
    have cb6 := cb5.trans (hb6.mono cb5.size)
    have ha6 := ha5.up hb6
    have p6 := p5.below hb6 p5.lt
    have hX6 := hX5.up hb6
    have hxT6 := hxT5.up hb6
    have hxO6 := hxO5.up hb6
    clear ha5 p5 hX5 hxT5 hxO5
    refine (HI.out _ w6 hxO6).mono ?_
    rintro e w7 ⟨rfl, hb7⟩
    have cb7 := cb6.trans (hb7.mono cb6.size)
    have ha7 := ha6.up hb7
    have p7 := p6.below hb7 p6.lt
    have hX7 := hX6.up hb7
    have hxT7 := hxT6.up hb7
    have hxO7 := hxO6.up hb7
    have px7 := px6.below hb7 px6.lt
    clear ha6 p6 hX6 hxT6 hxO6 px6
    have cp0 : w7.cell? ⟨w.heap.size, 0, none⟩ = some (.int .i64 t.kind) := p7.cell 0
    have cp1 : w7.cell? ⟨w.heap.size, 1, none⟩ = some (.slice L0 t.labels.length lc0) := p7.cell 1
    have cp2 : w7.cell? ⟨w.heap.size, 2, none⟩ = some (.slice A0 t.args.length ac0) := p7.cell 2
    have cpx0 : w7.cell? ⟨w5.heap.size, 0, none⟩ = some (.int .i64 t.kind) := px7.cell 0
    have cpx1 : w7.cell? ⟨w5.heap.size, 1, none⟩ = some (.slice Lx t.labels.length lx) := px7.cell 1
    have cpx2 : w7.cell? ⟨w5.heap.size, 2, none⟩ = some (.slice Ax t.args.length ax) := px7.cell 2
    have hpl := p7.lt
    have hql := px7.lt
    have HT := Lib.hid (toType_any t _ w7.drew (ha7.up (Below.refl _ _).drew) hsz)
    have HX := Lib.hid (fun W1 h V hv => eqType_any t (.agg #[.int .i64 t.kind, .slice Lx t.labels.length lx, .slice Ax t.args.length ax]) V W1 ((hxT7.up (Below.refl _ _).drew).up h) hv)
    go_wp2_with fail
    go_region_held3 (fun x => x.cell? ⟨w.heap.size, 0, none⟩ = some (.int .i64 t.kind) ∧ x.cell? ⟨w.heap.size, 1, none⟩ = some (.slice L0 t.labels.length lc0) ∧ x.cell? ⟨w.heap.size, 2, none⟩ = some (.slice A0 t.args.length ac0) ∧ x.cell? ⟨w5.heap.size, 0, none⟩ = some (.int .i64 t.kind) ∧ x.cell? ⟨w5.heap.size, 1, none⟩ = some (.slice Lx t.labels.length lx) ∧ x.cell? ⟨w5.heap.size, 2, none⟩ = some (.slice Ax t.args.length ax) ∧ Below w7.heap.size w7 x) ((first | exact ⟨cp0, cp1, cp2, cpx0, cpx1, cpx2, (Below.refl _ _).drew⟩ | exact ⟨k0, k1, k2, k3, k4, k5, hA⟩ | exact ⟨m0, m1, m2, m3, m4, m5, hb8⟩))
      (first | (go_at_call 18; refine HT.out.mono ?_; rintro e wA ⟨v3, rfl, hv3, hbA⟩; have hA := (Below.refl w7.heap.size w7).drew.trans hbA; have k0 := (hA.cell (p := ⟨w.heap.size, 0, none⟩) hpl).trans cp0; have k1 := (hA.cell (p := ⟨w.heap.size, 1, none⟩) hpl).trans cp1; have k2 := (hA.cell (p := ⟨w.heap.size, 2, none⟩) hpl).trans cp2; have k3 := (hA.cell (p := ⟨w5.heap.size, 0, none⟩) hql).trans cpx0; have k4 := (hA.cell (p := ⟨w5.heap.size, 1, none⟩) hql).trans cpx1; have k5 := (hA.cell (p := ⟨w5.heap.size, 2, none⟩) hql).trans cpx2) | (go_at_call 19; refine (HX.out _ hbA v3 hv3.here).mono ?_; rintro e w8 ⟨rfl, hbB⟩; have hb8 := hA.trans (hbB.mono hA.size); have m0 := (hb8.cell (p := ⟨w.heap.size, 0, none⟩) hpl).trans cp0; have m1 := (hb8.cell (p := ⟨w.heap.size, 1, none⟩) hpl).trans cp1; have m2 := (hb8.cell (p := ⟨w.heap.size, 2, none⟩) hpl).trans cp2; have m3 := (hb8.cell (p := ⟨w5.heap.size, 0, none⟩) hql).trans cpx0; have m4 := (hb8.cell (p := ⟨w5.heap.size, 1, none⟩) hql).trans cpx1; have m5 := (hb8.cell (p := ⟨w5.heap.size, 2, none⟩) hql).trans cpx2))
    clear cp0 cp1 cp2 cpx0 cpx1 cpx2
    have cb8 := cb7.trans (hb8.mono cb7.size)
    have ha8 := ha7.up hb8
    have p8 := p7.below hb8 p7.lt
    have hX8 := hX7.up hb8
    have hxT8 := hxT7.up hb8
    have hxO8 := hxO7.up hb8
    have px8 := px7.below hb8 px7.lt
    clear ha7 p7 hX7 hxT7 hxO7 px7
    go_wp2
    go_ret
    exact ⟨rfl, cb8⟩

theorem own : ownKnob Try.prog.godebug = none := by kernel_rfl
theorem laidOut : laidOutB Try.prog = true := by kernel_rfl

set_option maxRecDepth 100000 in
theorem lifted (os : Os) (started : os.Started) (H : Type) (enc : TypeId × Value → H) :
    ReturnsInHanded {} Try.checked os 4 .any (Rows.fnExactFormatTypeSpec.pre6 enc Try.prog Try.f4 Rows.fnExactFormatTypeRow.domain false) (Rows.fnExactFormatTypeSpec.post enc Try.prog Try.f4 false true false false) := by
  refine law_lifted (C := Try.checked) (bt := 4) own laidOut started (by kernel_rfl) Try.func4 rfl rfl Try.underlying4 (by kernel_rfl) ?_
    (ChangeSpec.witness6 (enc := enc) (C := Try.checked) false ⟨#[], #[.agg #[.int .i64 0, .slice none 0 0, .slice none 0 0]], []⟩ 8 (by kernel_rfl) (by kernel_rfl) (by kernel_rfl) (by kernel_rfl)) ?_
  · intro ds hd
    have : ds.length = 1 := hd
    match ds, this with
    | [d1], _ => rfl
  · intro W base args ds p hval0 hA0 hlt
    have hval : ∀ (j : Nat) t v, Try.f4.params[j]? = some t → args[j]? = some v → Value.okWide Try.prog W .any base t v := hval0
    have hA : DataW.TrodAll enc Try.prog W 0 (fun _ => true) true Try.f4.params.toList args.toList ds p := hA0
    rw [Try.params4] at hA hval
    obtain ⟨v0, d0, rfl, rfl, h0⟩ := trodAll_one hA
    obtain ⟨a0, ra0⟩ := open_type_arg (hval 0 37 v0 rfl rfl) h0 (fun x hx => hlt x (by simp [hx]))
    exact walk a0 v0 W ra0

theorem over : Rows.FnExactFormatTypeSaid :=
  OpenClaim.holds_of_wide 4 Try.f4 rfl rfl rfl rfl rfl rfl rfl ⟨rfl, rfl, rfl, rfl, rfl⟩ rfl rfl rfl rfl rfl (by kernel_rfl) Try.func4 (by kernel_rfl)
    (of_decide_eq_true (by kernel_rfl)) (by unfold Func.isWrapper; rw [if_neg (of_decide_eq_false (by kernel_rfl))]; exact ⟨rfl, rfl⟩)
    (fun os started H enc _ => lifted os started H enc)

theorem proved : Rows.FnExactFormatTypeSaid := over

end Go.Proofs.Ytmacbkcjeamaeaa.lawFormatType
