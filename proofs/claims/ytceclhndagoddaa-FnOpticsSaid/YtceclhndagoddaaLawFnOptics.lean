/- FnOptics: for every code the law of optics hands back true. No condition. -/
import Derived.Test.YtceclhndagoddaaRows
import Derived.Test.YtceclhndagoddaaLaw
import Derived.Test.YtceclhndagoddaaOpenBytes
import Derived.Test.YtceclhndagoddaaODrawEq
import Derived.Test.YtceclhndagoddaaImplOForm
import Derived.Test.YtceclhndagoddaaOImplEqual
import Derived.Deep.DeepCutAuto
import Derived.Deep.RegionHeld3
namespace Go.Proofs.Ytceclhndagoddaa.lawFnOptics
open Go.ChangeShapes Go.WideShapes Go.ChangeAt Go.RowKit
open Go.ChangeMaps (open_string shut_string)

set_option maxHeartbeats 4000000 in
set_option maxRecDepth 100000 in
theorem walk (A : Option Addr) (n cap : Nat) (w : World) (hd : BytesAt w w.heap.size A n) (hn : n ≤ maxLen) :
    Calls Try.prog 3 #[.slice A n cap] w (TrueBelow w) := by
  unfold maxLen at hn
  by_cases h1 : (1048576 : Int) < n
  · clear hd
    go_enter Try.func3, Try.ntmps3
    go_wp2
    go_ret
    exact ⟨rfl, Below.refl _ _⟩
  · skip
    have HD := Lib.hid hd
    clear hd
    go_enter Try.func3, Try.ntmps3
    go_wp2_with (first | (go_at_call 9; go_in) | fail)
    refine (drawIsOptic_any A n cap w HD.out (by omega)).mono ?_
    rintro e w1 ⟨⟨v, t, rfl, hI1, hz1⟩, hb1⟩
    obtain ⟨A1, a1, rfl, _⟩ := hI1.open
    have oT1 := OwnO.of hI1
    have cb1 := hb1
    obtain ⟨hx2, bT2, hs2⟩ := boxes1 w1 26 #[.int .i64 t.kind, .string t.name, .int .i64 t.num, .slice A1 t.args.length a1]
    have oT2 := oT1.up hx2
    have cb2 := cb1.trans (hx2.mono cb1.size)
    clear hI1 hb1 oT1 hx2 hs2
    go_upto_region 4 with fail
    generalize w1.alloc (.cells #[.int .i64 t.kind, .string t.name, .int .i64 t.num, .slice A1 t.args.length a1] 26) = w2 at *
    have hpl := bT2.lt
    have hks : OwnOs w2 A1 t.args := by
      obtain ⟨A', ac', hv, _, ha⟩ := oT2.open
      simp at hv
      rw [hv.1]
      exact ha
    have hkm := hks.here.1
    unfold maxLen at hkm
    have hsz := size_le_szO t
    have hse := sizeOt_eq t
    have hde := depthOt_eq t
    have hds := depth_le_sizeO t
    have hsl := szOts_len t.args
    have hsq := szOt_eq t
    go_wp2
    go_loopw [4, 5, 6] (fun s d i wr => ∃ (k dd : Nat), k ≤ t.args.length ∧ i = .int .i64 k ∧ s = .int .i64 ((1 + sizeOts (t.args.take k) : Nat) : Int) ∧ d = .int .i64 (dd : Int) ∧ Hid (dd = depthOts (t.args.take k)) ∧ dd ≤ 10000 ∧ Below w2.heap.size w2 wr) (fun _ _ i _ => t.args.length - (intOf i).toNat)
    case atStart => exact ⟨0, 0, Nat.zero_le _, rfl, by simp [sizeOts], rfl, Lib.hid (by simp [depthOts]), by omega, Below.refl _ _⟩
    case round =>
      obtain ⟨k, dd, hk, rfl, rfl, rfl, hdd, hdl, hb⟩ := hrel
      have p1 := bT2.below hb hpl
      have c2 : wr.cell? ⟨w1.heap.size, 3, none⟩ = some (.slice A1 t.args.length a1) := p1.cell 3
      by_cases hlt : k < t.args.length
      · obtain ⟨g, N, nc, rfl, hgl, q0, q1, q2, q3, hT⟩ := (hks.up hb).elem k hlt
        have hst := Lib.hid (sizeOts_take t.args k hlt)
        have hdt := Lib.hid (depthOts_take t.args k hlt)
        have hle := sizeOts_le t.args (k + 1)
        have hle2 := sizeOts_le t.args k
        have hb3 : sizeOts (t.args.take k) + sizeOt t.args[k] ≤ 5000 := by have := hst.out; omega
        have hb4 := depth_le_sizeO t.args[k]
        have hlI : (k : Int) < (t.args.length : Int) := by omega
        have HT := Lib.hid hT
        have HS := Lib.hid (O.implSizeO_any t.args[k] _ wr hT (by omega))
        clear hT p1
        go_wp2_with fail
        refine HS.out.mono ?_
        rintro e w3 ⟨rfl, hb5⟩
        have h3 := hb.trans (hb5.mono hb.size)
        have p3 := bT2.below h3 hpl
        have d2 : w3.cell? ⟨w1.heap.size, 3, none⟩ = some (.slice (some ⟨g, 0, none⟩) t.args.length a1) := p3.cell 3
        have r0 := (hb5.cell (p := ⟨g, k * 4, none⟩) hgl).trans q0
        have r1 := (hb5.cell (p := ⟨g, k * 4 + 2, none⟩) hgl).trans q1
        have r2 := (hb5.cell (p := ⟨g, k * 4 + 1, none⟩) hgl).trans q2
        have r3 := (hb5.cell (p := ⟨g, k * 4 + 3, none⟩) hgl).trans q3
        have HT3 := Lib.hid (HT.out.up hb5)
        have HD3 := Lib.hid (O.implDepthO_any t.args[k] _ w3 HT3.out (by omega))
        have hgl3 := Nat.lt_of_lt_of_le hgl hb5.size
        clear c2 q0 q1 q2 q3 p3
        go_wp2_with fail
        refine HD3.out.mono ?_
        rintro e w4 ⟨rfl, hb6⟩
        have h4 := h3.trans (hb6.mono h3.size)
        by_cases hgt : dd < depthOt t.args[k]
        · have hgI : (depthOt t.args[k] : Int) > (dd : Int) := by omega
          have p4 := bT2.below h4 hpl
          have f2 : w4.cell? ⟨w1.heap.size, 3, none⟩ = some (.slice (some ⟨g, 0, none⟩) t.args.length a1) := p4.cell 3
          have s0 := (hb6.cell (p := ⟨g, k * 4, none⟩) hgl3).trans r0
          have s1 := (hb6.cell (p := ⟨g, k * 4 + 2, none⟩) hgl3).trans r1
          have s2 := (hb6.cell (p := ⟨g, k * 4 + 1, none⟩) hgl3).trans r2
          have s3 := (hb6.cell (p := ⟨g, k * 4 + 3, none⟩) hgl3).trans r3
          have HD4 := Lib.hid (O.implDepthO_any t.args[k] _ w4 (HT3.out.up hb6) (by omega))
          clear d2 r0 r1 r2 r3 p4
          go_wp2_with fail
          refine HD4.out.mono ?_
          rintro e w5 ⟨rfl, hb7⟩
          go_wp2
          go_roundw
          case rel => exact ⟨k + 1, depthOt t.args[k], by omega, by go_num, by rw [hst.out]; go_num, by go_num, Lib.hid (by rw [hdt.out, ← hdd.out]; omega), by omega, h4.trans (hb7.mono h4.size)⟩
          case measure => simp [intOf]; omega
        · have hgI : ¬ (depthOt t.args[k] : Int) > (dd : Int) := by omega
          go_wp2
          go_roundw
          case rel => exact ⟨k + 1, dd, by omega, by go_num, by rw [hst.out]; go_num, by go_num, Lib.hid (by rw [hdt.out, ← hdd.out]; omega), by omega, h4⟩
          case measure => simp [intOf]; omega
      · have hke : k = t.args.length := by omega
        subst hke
        rw [List.take_length] at hdd ⊢
        have hsum : ((1 + sizeOts t.args : Nat) : Int) = (sizeOt t : Int) := by omega
        have hdp : dd = depthOts t.args := hdd.out
        have oT3 := oT2.up hb
        have cb3 := cb2.trans (hb.mono cb2.size)
        have hA3 : BytesAt wr wr.heap.size A n := (BytesAt.below HD.out cb3).keepMore cb3.size
        have bT3 := bT2.below hb hpl
        clear hks oT2 bT2 cb2 hb hdd
        go_wp2_with fail
        refine (drawEqualOptic_any A n cap wr hA3 (by omega)).mono ?_
        rintro e w4 ⟨⟨v1, x, v2, y, rfl, hIx, hzx, hIy, hzy⟩, hb4⟩
        obtain ⟨A2, a2, rfl, _⟩ := hIx.open
        obtain ⟨A3, a3, rfl, _⟩ := hIy.open
        have oX4 := OwnO.of hIx
        have oY4 := OwnO.of hIy
        clear hIx hIy
        obtain ⟨hx5, bX5, bY5, hs5⟩ := boxes2 w4 26 26 #[.int .i64 x.kind, .string x.name, .int .i64 x.num, .slice A2 x.args.length a2] #[.int .i64 y.kind, .string y.name, .int .i64 y.num, .slice A3 y.args.length a3]
        have cb4 := cb3.trans (hb4.mono cb3.size)
        have oT5 := (oT3.up hb4).up hx5
        have oX5 := oX4.up hx5
        have oY5 := oY4.up hx5
        have bT5 := (bT3.below hb4 bT3.lt).below hx5 (Nat.lt_of_lt_of_le bT3.lt hb4.size)
        have cb5 := cb4.trans (hx5.mono cb4.size)
        have hA5 := (BytesAt.below HD.out cb5).keepMore cb5.size
        clear oT3 oX4 oY4 bT3 hb4 hx5 cb4 hs5
        go_upto_region 13 with fail
        generalize (w4.alloc (.cells #[.int .i64 x.kind, .string x.name, .int .i64 x.num, .slice A2 x.args.length a2] 26)).alloc (.cells #[.int .i64 y.kind, .string y.name, .int .i64 y.num, .slice A3 y.args.length a3] 26) = w5 at *
        go_wp2_with fail
        refine (drawArityOf_any A n cap w5 hA5 (by omega)).mono ?_
        rintro e wB ⟨⟨kk, rfl, hk0, hk1⟩, hb6⟩
        have oTB := oT5.up hb6
        have oXB := oX5.up hb6
        have oYB := oY5.up hb6
        have bTB := bT5.below hb6 bT5.lt
        have bXB := bX5.below hb6 bX5.lt
        have bYB := bY5.below hb6 bY5.lt
        have cbB := cb5.trans (hb6.mono cb5.size)
        clear oT5 oX5 oY5 bT5 bX5 bY5 hb6 cb5 hA5
        go_upto_region 14 with fail
        have hTl := bTB.lt
        have hXl := bXB.lt
        have hYl := bYB.lt
        have KF : Hid (∀ z, Below wB.heap.size wB z → z.cell? ⟨w1.heap.size, 0, none⟩ = some (.int .i64 t.kind) ∧ z.cell? ⟨w1.heap.size, 1, none⟩ = some (.string t.name) ∧ z.cell? ⟨w1.heap.size, 2, none⟩ = some (.int .i64 t.num) ∧ z.cell? ⟨w1.heap.size, 3, none⟩ = some (.slice A1 t.args.length a1) ∧ z.cell? ⟨w4.heap.size, 0, none⟩ = some (.int .i64 x.kind) ∧ z.cell? ⟨w4.heap.size, 1, none⟩ = some (.string x.name) ∧ z.cell? ⟨w4.heap.size, 2, none⟩ = some (.int .i64 x.num) ∧ z.cell? ⟨w4.heap.size, 3, none⟩ = some (.slice A2 x.args.length a2) ∧ z.cell? ⟨w4.heap.size + 1, 0, none⟩ = some (.int .i64 y.kind) ∧ z.cell? ⟨w4.heap.size + 1, 1, none⟩ = some (.string y.name) ∧ z.cell? ⟨w4.heap.size + 1, 2, none⟩ = some (.int .i64 y.num) ∧ z.cell? ⟨w4.heap.size + 1, 3, none⟩ = some (.slice A3 y.args.length a3)) := Lib.hid (fun z h => ⟨(h.cell (p := ⟨w1.heap.size, 0, none⟩) hTl).trans (bTB.cell 0), (h.cell (p := ⟨w1.heap.size, 1, none⟩) hTl).trans (bTB.cell 1), (h.cell (p := ⟨w1.heap.size, 2, none⟩) hTl).trans (bTB.cell 2), (h.cell (p := ⟨w1.heap.size, 3, none⟩) hTl).trans (bTB.cell 3), (h.cell (p := ⟨w4.heap.size, 0, none⟩) hXl).trans (bXB.cell 0), (h.cell (p := ⟨w4.heap.size, 1, none⟩) hXl).trans (bXB.cell 1), (h.cell (p := ⟨w4.heap.size, 2, none⟩) hXl).trans (bXB.cell 2), (h.cell (p := ⟨w4.heap.size, 3, none⟩) hXl).trans (bXB.cell 3), (h.cell (p := ⟨w4.heap.size + 1, 0, none⟩) hYl).trans (bYB.cell 0), (h.cell (p := ⟨w4.heap.size + 1, 1, none⟩) hYl).trans (bYB.cell 1), (h.cell (p := ⟨w4.heap.size + 1, 2, none⟩) hYl).trans (bYB.cell 2), (h.cell (p := ⟨w4.heap.size + 1, 3, none⟩) hYl).trans (bYB.cell 3)⟩)
        have H1 := Lib.hid (fun z (h : Below wB.heap.size wB z) => O.implSizeO_any t _ z (oTB.up h) (by omega))
        have H2 := Lib.hid (fun z (h : Below wB.heap.size wB z) => (show Calls Try.prog 12 #[_] z (IntBelow ((depthOts t.args : Int) + 1) z) from by
          have h0 := O.implDepthO_any t _ z (oTB.up h) (by omega)
          have h1 : (depthOt t : Int) = (depthOts t.args : Int) + 1 := by omega
          rw [h1] at h0
          exact h0))
        have H3 := Lib.hid (fun z (h : Below wB.heap.size wB z) => implIsOptic_any t _ z (oTB.up h) (by omega))
        have H4 := Lib.hid (fun z (h : Below wB.heap.size wB z) => specIsOptic_any t _ z (oTB.up h).here (by omega))
        have H5 := Lib.hid (fun z (h : Below wB.heap.size wB z) => O.implEqualO_any x y _ _ z (oXB.up h) (oYB.up h) (by have := size_le_szO x; omega))
        have H6 := Lib.hid (fun z (h : Below wB.heap.size wB z) => specEqualO_any x y _ _ z (oXB.up h).here (oYB.up h).here)
        have H7 := Lib.hid (fun z => implArity_any kk z)
        have H8 : Hid (∀ z, Calls Try.prog 20 #[.int .i64 kk] z fun e w' => e = .returned (.int .i64 (arityI kk)) ∧ Below z.heap.size z w') := Lib.hid (fun z => (specArity_any kk z).mono (by rintro e w' ⟨h1, rfl⟩; exact ⟨h1, Below.refl _ _⟩))
        generalize opticB t = b1 at *
        generalize eqOtB x y = b2 at *
        generalize arityI kk = b3 at *
        have hwr : IntKind.i64.wrap ((depthOts t.args : Int) + 1) = (depthOts t.args : Int) + 1 := by rw [IntKind.wrap_i64]; omega
        have hD := (Below.refl wB.heap.size wB).drew
        have cD := KF.out wB.drew hD
        clear bTB bXB bYB oTB oXB oYB
        go_region_held3 (fun z : World => z.cell? ⟨w1.heap.size, 0, none⟩ = some (.int .i64 t.kind) ∧ z.cell? ⟨w1.heap.size, 1, none⟩ = some (.string t.name) ∧ z.cell? ⟨w1.heap.size, 2, none⟩ = some (.int .i64 t.num) ∧ z.cell? ⟨w1.heap.size, 3, none⟩ = some (.slice A1 t.args.length a1) ∧ z.cell? ⟨w4.heap.size, 0, none⟩ = some (.int .i64 x.kind) ∧ z.cell? ⟨w4.heap.size, 1, none⟩ = some (.string x.name) ∧ z.cell? ⟨w4.heap.size, 2, none⟩ = some (.int .i64 x.num) ∧ z.cell? ⟨w4.heap.size, 3, none⟩ = some (.slice A2 x.args.length a2) ∧ z.cell? ⟨w4.heap.size + 1, 0, none⟩ = some (.int .i64 y.kind) ∧ z.cell? ⟨w4.heap.size + 1, 1, none⟩ = some (.string y.name) ∧ z.cell? ⟨w4.heap.size + 1, 2, none⟩ = some (.int .i64 y.num) ∧ z.cell? ⟨w4.heap.size + 1, 3, none⟩ = some (.slice A3 y.args.length a3))
          (first | (with_reducible exact cD) | (with_reducible exact cu1) | (with_reducible exact cu2) | (with_reducible exact cu3) | (with_reducible exact cu4) | (with_reducible exact cu5) | (with_reducible exact cu6) | (with_reducible exact cu7) | (with_reducible exact cu8))
          (first | (go_at_call 11; (with_reducible refine (H1.out _ hD).mono ?_); rintro e u1 ⟨rfl, hn1⟩; have hu1 := hD.trans (hn1.mono hD.size); have cu1 := KF.out u1 hu1) | (go_at_call 12; (with_reducible refine (H2.out _ hu1).mono ?_); rintro e u2 ⟨rfl, hn2⟩; have hu2 := hu1.trans (hn2.mono hu1.size); have cu2 := KF.out u2 hu2) | (go_at_call 15; (with_reducible refine (H3.out _ hu2).mono ?_); rintro e u3 ⟨rfl, hn3⟩; have hu3 := hu2.trans (hn3.mono hu2.size); have cu3 := KF.out u3 hu3) | (go_at_call 16; (with_reducible refine (H4.out _ hu3).mono ?_); rintro e u4 ⟨rfl, hn4⟩; have hu4 := hu3.trans (hn4.mono hu3.size); have cu4 := KF.out u4 hu4) | (go_at_call 17; (with_reducible refine (H5.out _ hu4).mono ?_); rintro e u5 ⟨rfl, hn5⟩; have hu5 := hu4.trans (hn5.mono hu4.size); have cu5 := KF.out u5 hu5) | (go_at_call 18; (with_reducible refine (H6.out _ hu5).mono ?_); rintro e u6 ⟨rfl, hn6⟩; have hu6 := hu5.trans (hn6.mono hu5.size); have cu6 := KF.out u6 hu6) | (go_at_call 19; (with_reducible refine (H7.out _).mono ?_); rintro e u7 ⟨rfl, hn7⟩; have hu7 := hu6.trans (hn7.mono hu6.size); have cu7 := KF.out u7 hu7) | (go_at_call 20; (with_reducible refine (H8.out _).mono ?_); rintro e u8 ⟨rfl, hn8⟩; have hu8 := hu7.trans (hn8.mono hu7.size); have cu8 := KF.out u8 hu8))
        go_wp2
        go_ret
        exact ⟨rfl, cbB.trans (hu8.mono cbB.size)⟩

theorem own : ownKnob Try.prog.godebug = none := by kernel_rfl
theorem laidOut : laidOutB Try.prog = true := by kernel_rfl

set_option maxRecDepth 100000 in
theorem lifted (os : Os) (started : os.Started) (H : Type) (enc : TypeId × Value → H) :
    ReturnsInHanded {} Try.checked os 3 .any (Rows.fnOpticsSpec.pre6 enc Try.prog Try.f3 Rows.fnOpticsRow.domain false) (Rows.fnOpticsSpec.post enc Try.prog Try.f3 false true false false) := by
  refine law_lifted (C := Try.checked) (bt := 4) own laidOut started (by kernel_rfl) Try.func3 rfl rfl Try.underlying4 (by kernel_rfl) ?_
    (ChangeSpec.witness6 (enc := enc) (C := Try.checked) false ⟨#[], #[.slice none 0 0], []⟩ 8 (by kernel_rfl) (by kernel_rfl) (by kernel_rfl) (by kernel_rfl)) ?_
  · intro ds hd
    have : ds.length = 1 := hd
    match ds, this with
    | [d1], _ => rfl
  · intro W base args ds p hval0 hA0 hlt
    have hval : ∀ (j : Nat) t v, Try.f3.params[j]? = some t → args[j]? = some v → Value.okWide Try.prog W .any base t v := hval0
    have hA : DataW.TrodAll enc Try.prog W 0 (fun _ => true) true Try.f3.params.toList args.toList ds p := hA0
    rw [Try.params3] at hA hval
    obtain ⟨v0, d0, rfl, rfl, h0⟩ := trodAll_one hA
    obtain ⟨A0, a0, c0, rfl, ra0, la0⟩ := open_bytes_arg Try.underlying22 Try.underlying5 (by kernel_rfl) (hval 0 22 v0 rfl rfl) h0 (fun x hx => hlt x (by simp [hx]))
    exact walk A0 a0 c0 W ra0 la0

theorem over : Rows.FnOpticsSaid :=
  OpenClaim.holds_of_wide 3 Try.f3 rfl rfl rfl rfl rfl rfl rfl ⟨rfl, rfl, rfl, rfl, rfl⟩ rfl rfl rfl rfl rfl (by kernel_rfl) Try.func3 (by kernel_rfl)
    (of_decide_eq_true (by kernel_rfl)) (by unfold Func.isWrapper; rw [if_neg (of_decide_eq_false (by kernel_rfl))]; exact ⟨rfl, rfl⟩)
    (fun os started H enc _ => lifted os started H enc)

theorem proved : Rows.FnOpticsSaid := over

end Go.Proofs.Ytceclhndagoddaa.lawFnOptics
