/- FnTypes: for every code the law of types hands back true. No condition. -/
import Derived.Test.YtghipacdhpglcaaRows
import Derived.Test.YtghipacdhpglcaaLaw
import Derived.Test.YtghipacdhpglcaaOpenBytes
import Derived.Test.YtghipacdhpglcaaDraw3c
import Derived.Test.YtghipacdhpglcaaImplUniform
import Derived.Deep.DeepCutAuto
import Derived.Deep.RegionHeld3
namespace Go.Proofs.Ytghipacdhpglcaa.lawFnTypes
open Go.ChangeShapes Go.WideShapes Go.ChangeAt Go.RowKit
open Go.ChangeMaps (open_string shut_string)

theorem part_sz (t : Ty) (l : ByteArray) : szTy ((partB t l).getD zeroTy) ≤ szTy t := by
  unfold partB
  split
  · cases h : t.args[(idxOf t.labels l).toNat]? with
    | none => simp [zeroTy, szTy, szTys, sumSizes]
    | some a =>
      obtain ⟨hi, rfl⟩ := List.getElem?_eq_some_iff.1 h
      have h1 := szTy_part t.args _ hi
      have h2 := szTy_eq t
      show szTy t.args[(idxOf t.labels l).toNat] ≤ szTy t
      omega
  · simp [zeroTy, szTy, szTys, sumSizes]

set_option maxHeartbeats 4000000 in
set_option maxRecDepth 100000 in
theorem walk (A : Option Addr) (n cap : Nat) (w : World) (hd : BytesAt w w.heap.size A n) (hn : n ≤ maxLen) :
    Calls Try.prog 4 #[.slice A n cap] w (TrueBelow w) := by
  unfold maxLen at hn
  by_cases h1 : (1048576 : Int) < n
  · clear hd
    go_enter Try.func4, Try.ntmps4
    go_wp2
    go_ret
    exact ⟨rfl, Below.refl _ _⟩
  · skip
    have HD := Lib.hid hd
    clear hd
    go_enter Try.func4, Try.ntmps4
    go_wp2_with (first | (go_at_call 13; go_in) | fail)
    refine (drawIsValidType_any A n cap w HD.out (by omega)).mono ?_
    rintro e w1 ⟨⟨v, t, rfl, hI1, hz1⟩, hb1⟩
    obtain ⟨L1, l1, A1, a1, _, rfl, _⟩ := hI1.open
    have oT1 := OwnT.of hI1
    have cb1 := hb1
    obtain ⟨hx2, bT2, hs2⟩ := boxes1 w1 36 #[.int .i64 t.kind, .slice L1 t.labels.length l1, .slice A1 t.args.length a1]
    have oT2 := oT1.up hx2
    have cb2 := cb1.trans (hx2.mono cb1.size)
    clear hI1 hb1 oT1 hx2 hs2
    go_upto_region 4 with fail
    generalize w1.alloc (.cells #[.int .i64 t.kind, .slice L1 t.labels.length l1, .slice A1 t.args.length a1] 36) = w2 at *
    have hpl := bT2.lt
    have hks := oT2.kids
    have hkm := hks.here.1
    unfold maxLen at hkm
    have hsz := size_le_sz t
    have hse := sizeTy_eq t
    have hde := depthTy_eq t
    have hds := depth_le_size t
    have hsl := szTys_len t.args
    have hsq := szTy_eq t
    go_wp2
    go_loopw [4, 5, 6] (fun s d i wr => ∃ (k dd : Nat), k ≤ t.args.length ∧ i = .int .i64 k ∧ s = .int .i64 ((1 + sizeTys (t.args.take k) : Nat) : Int) ∧ d = .int .i64 (dd : Int) ∧ Hid (dd = depthTys (t.args.take k)) ∧ dd ≤ 10000 ∧ Below w2.heap.size w2 wr) (fun _ _ i _ => t.args.length - (intOf i).toNat)
    case atStart => exact ⟨0, 0, Nat.zero_le _, rfl, by simp [sizeTys], rfl, Lib.hid (by simp [depthTys]), by omega, Below.refl _ _⟩
    case round =>
      obtain ⟨k, dd, hk, rfl, rfl, rfl, hdd, hdl, hb⟩ := hrel
      have p1 := bT2.below hb hpl
      have c2 : wr.cell? ⟨w1.heap.size, 2, none⟩ = some (.slice A1 t.args.length a1) := p1.cell 2
      by_cases hlt : k < t.args.length
      · obtain ⟨g, M, mc, N, nc, rfl, hgl, q0, q1, q2, hT⟩ := (hks.up hb).elem k hlt
        have hst := Lib.hid (sizeTys_take t.args k hlt)
        have hdt := Lib.hid (depthTys_take t.args k hlt)
        have hle := sizeTys_le t.args (k + 1)
        have hle2 := sizeTys_le t.args k
        have hb3 : sizeTys (t.args.take k) + sizeTy t.args[k] ≤ 5000 := by have := hst.out; omega
        have hb4 := depth_le_size t.args[k]
        have hlI : (k : Int) < (t.args.length : Int) := by omega
        have HT := Lib.hid hT
        have HS := Lib.hid (implSizeOf_any t.args[k] _ wr hT (by omega))
        clear hT p1
        go_wp2_with fail
        refine HS.out.mono ?_
        rintro e w3 ⟨rfl, hb5⟩
        have h3 := hb.trans (hb5.mono hb.size)
        have p3 := bT2.below h3 hpl
        have d2 : w3.cell? ⟨w1.heap.size, 2, none⟩ = some (.slice (some ⟨g, 0, none⟩) t.args.length a1) := p3.cell 2
        have r0 := (hb5.cell (p := ⟨g, k * 3, none⟩) hgl).trans q0
        have r1 := (hb5.cell (p := ⟨g, k * 3 + 1, none⟩) hgl).trans q1
        have r2 := (hb5.cell (p := ⟨g, k * 3 + 2, none⟩) hgl).trans q2
        have HT3 := Lib.hid (HT.out.up hb5)
        have HD3 := Lib.hid (implDepthOf_any t.args[k] _ w3 HT3.out (by omega))
        have hgl3 := Nat.lt_of_lt_of_le hgl hb5.size
        clear c2 q0 q1 q2 p3
        go_wp2_with fail
        refine HD3.out.mono ?_
        rintro e w4 ⟨rfl, hb6⟩
        have h4 := h3.trans (hb6.mono h3.size)
        by_cases hgt : dd < depthTy t.args[k]
        · have hgI : (depthTy t.args[k] : Int) > (dd : Int) := by omega
          have p4 := bT2.below h4 hpl
          have f2 : w4.cell? ⟨w1.heap.size, 2, none⟩ = some (.slice (some ⟨g, 0, none⟩) t.args.length a1) := p4.cell 2
          have s0 := (hb6.cell (p := ⟨g, k * 3, none⟩) hgl3).trans r0
          have s1 := (hb6.cell (p := ⟨g, k * 3 + 1, none⟩) hgl3).trans r1
          have s2 := (hb6.cell (p := ⟨g, k * 3 + 2, none⟩) hgl3).trans r2
          have HD4 := Lib.hid (implDepthOf_any t.args[k] _ w4 (HT3.out.up hb6) (by omega))
          clear d2 r0 r1 r2 p4
          go_wp2_with fail
          refine HD4.out.mono ?_
          rintro e w5 ⟨rfl, hb7⟩
          go_wp2
          go_roundw
          case rel => exact ⟨k + 1, depthTy t.args[k], by omega, by go_num, by rw [hst.out]; go_num, by go_num, Lib.hid (by rw [hdt.out, ← hdd.out]; omega), by omega, h4.trans (hb7.mono h4.size)⟩
          case measure => simp [intOf]; omega
        · have hgI : ¬ (depthTy t.args[k] : Int) > (dd : Int) := by omega
          go_wp2
          go_roundw
          case rel => exact ⟨k + 1, dd, by omega, by go_num, by rw [hst.out]; go_num, by go_num, Lib.hid (by rw [hdt.out, ← hdd.out]; omega), by omega, h4⟩
          case measure => simp [intOf]; omega
      · have hke : k = t.args.length := by omega
        subst hke
        rw [List.take_length] at hdd ⊢
        have hsum : ((1 + sizeTys t.args : Nat) : Int) = (sizeTy t : Int) := by omega
        have hdp : dd = depthTys t.args := hdd.out
        have oT3 := oT2.up hb
        have cb3 := cb2.trans (hb.mono cb2.size)
        have hA3 : BytesAt wr wr.heap.size A n := (BytesAt.below HD.out cb3).keepMore cb3.size
        have bT3 := bT2.below hb hpl
        clear hks oT2 bT2 cb2 hb hdd
        go_wp2_with fail
        refine (drawEqualType_any A n cap wr hA3 (by omega)).mono ?_
        rintro e w4 ⟨⟨v1, x, v2, y, rfl, hIx, hzx, hIy, hzy⟩, hb4⟩
        obtain ⟨L2, l2, A2, a2, _, rfl, _⟩ := hIx.open
        obtain ⟨L3, l3, A3, a3, _, rfl, _⟩ := hIy.open
        have oX4 := OwnT.of hIx
        have oY4 := OwnT.of hIy
        clear hIx hIy
        obtain ⟨hx5, bX5, bY5, hs5⟩ := boxes2 w4 36 36 #[.int .i64 x.kind, .slice L2 x.labels.length l2, .slice A2 x.args.length a2] #[.int .i64 y.kind, .slice L3 y.labels.length l3, .slice A3 y.args.length a3]
        have cb4 := cb3.trans (hb4.mono cb3.size)
        have oT5 := (oT3.up hb4).up hx5
        have oX5 := oX4.up hx5
        have oY5 := oY4.up hx5
        have bT5 := (bT3.below hb4 bT3.lt).below hx5 (Nat.lt_of_lt_of_le bT3.lt hb4.size)
        have cb5 := cb4.trans (hx5.mono cb4.size)
        have hA5 := (BytesAt.below HD.out cb5).keepMore cb5.size
        clear oT3 oX4 oY4 bT3 hb4 hx5 cb4 hs5
        go_upto_region 13 with fail
        generalize (w4.alloc (.cells #[.int .i64 x.kind, .slice L2 x.labels.length l2, .slice A2 x.args.length a2] 36)).alloc (.cells #[.int .i64 y.kind, .slice L3 y.labels.length l3, .slice A3 y.args.length a3] 36) = w5 at *
        go_wp2_with fail
        refine (drawPartType_any A n cap w5 hA5 (by omega)).mono ?_
        rintro e w6 ⟨⟨v3, u, lb, rfl, hIu, hzu, hlb⟩, hb6⟩
        obtain ⟨L4, l4, A4, a4, _, rfl, _⟩ := hIu.open
        have oU6 := OwnT.of hIu
        obtain ⟨hx7, bU7, hs7⟩ := boxes1 w6 36 #[.int .i64 u.kind, .slice L4 u.labels.length l4, .slice A4 u.args.length a4]
        have oU7 := oU6.up hx7
        have oT7 := (oT5.up hb6).up hx7
        have oX7 := (oX5.up hb6).up hx7
        have oY7 := (oY5.up hb6).up hx7
        have bT7 := (bT5.below hb6 bT5.lt).below hx7 (Nat.lt_of_lt_of_le bT5.lt hb6.size)
        have bX7 := (bX5.below hb6 bX5.lt).below hx7 (Nat.lt_of_lt_of_le bX5.lt hb6.size)
        have bY7 := (bY5.below hb6 bY5.lt).below hx7 (Nat.lt_of_lt_of_le bY5.lt hb6.size)
        have cb7 := cb5.trans ((hb6.trans (hx7.mono hb6.size)).mono cb5.size)
        clear hIu oU6 oT5 oX5 oY5 bT5 bX5 bY5 hb6 hx7 hs7 cb5 hA5
        go_upto_region 14 with fail
        generalize w6.alloc (.cells #[.int .i64 u.kind, .slice L4 u.labels.length l4, .slice A4 u.args.length a4] 36) = w7 at *
        have cU0 : w7.cell? ⟨w6.heap.size, 0, none⟩ = some (.int .i64 u.kind) := bU7.cell 0
        have cU1 : w7.cell? ⟨w6.heap.size, 1, none⟩ = some (.slice L4 u.labels.length l4) := bU7.cell 1
        have cU2 : w7.cell? ⟨w6.heap.size, 2, none⟩ = some (.slice A4 u.args.length a4) := bU7.cell 2
        go_wp2_with fail
        refine (implPart_any u lb _ w7 oU7 (by omega)).mono ?_
        rintro e w8 ⟨vp, rfl, hIp, hb8⟩
        obtain ⟨L5, l5, A5, a5, _, rfl, _⟩ := hIp.open
        have oP8 := OwnT.of hIp
        generalize hrr : (partB u lb).getD zeroTy = r at *
        have HRR := Lib.hid hrr
        clear hrr
        obtain ⟨hx9, bP9, hs9⟩ := boxes1 w8 36 #[.int .i64 r.kind, .slice L5 r.labels.length l5, .slice A5 r.args.length a5]
        have oP9 := oP8.up hx9
        have oU9 := (oU7.up hb8).up hx9
        have oT9 := (oT7.up hb8).up hx9
        have oX9 := (oX7.up hb8).up hx9
        have oY9 := (oY7.up hb8).up hx9
        have bU9 := (bU7.below hb8 bU7.lt).below hx9 (Nat.lt_of_lt_of_le bU7.lt hb8.size)
        have bT9 := (bT7.below hb8 bT7.lt).below hx9 (Nat.lt_of_lt_of_le bT7.lt hb8.size)
        have bX9 := (bX7.below hb8 bX7.lt).below hx9 (Nat.lt_of_lt_of_le bX7.lt hb8.size)
        have bY9 := (bY7.below hb8 bY7.lt).below hx9 (Nat.lt_of_lt_of_le bY7.lt hb8.size)
        have cb9 := cb7.trans ((hb8.trans (hx9.mono hb8.size)).mono cb7.size)
        clear hIp oP8 oU7 oT7 oX7 oY7 bU7 bT7 bX7 bY7 hb8 hx9 hs9 cb7 cU0 cU1 cU2
        go_upto_region 15 with fail
        generalize w8.alloc (.cells #[.int .i64 r.kind, .slice L5 r.labels.length l5, .slice A5 r.args.length a5] 36) = w9 at *
        have cU0 : w9.cell? ⟨w6.heap.size, 0, none⟩ = some (.int .i64 u.kind) := bU9.cell 0
        have cU1 : w9.cell? ⟨w6.heap.size, 1, none⟩ = some (.slice L4 u.labels.length l4) := bU9.cell 1
        have cU2 : w9.cell? ⟨w6.heap.size, 2, none⟩ = some (.slice A4 u.args.length a4) := bU9.cell 2
        go_wp2_with fail
        refine (specPart_any u lb _ w9 oU9.here (by omega)).mono ?_
        rintro e w10 ⟨vq, rfl, hIq, hb10⟩
        rw [HRR.out] at hIq
        obtain ⟨L6, l6, A6, a6, _, rfl, _⟩ := hIq.open
        have oQ10 := OwnT.of hIq
        obtain ⟨hx11, bQ11, hs11⟩ := boxes1 w10 36 #[.int .i64 r.kind, .slice L6 r.labels.length l6, .slice A6 r.args.length a6]
        have oQ11 := oQ10.up hx11
        have oP11 := (oP9.up hb10).up hx11
        have oT11 := (oT9.up hb10).up hx11
        have oX11 := (oX9.up hb10).up hx11
        have oY11 := (oY9.up hb10).up hx11
        have bP11 := (bP9.below hb10 bP9.lt).below hx11 (Nat.lt_of_lt_of_le bP9.lt hb10.size)
        have bT11 := (bT9.below hb10 bT9.lt).below hx11 (Nat.lt_of_lt_of_le bT9.lt hb10.size)
        have bX11 := (bX9.below hb10 bX9.lt).below hx11 (Nat.lt_of_lt_of_le bX9.lt hb10.size)
        have bY11 := (bY9.below hb10 bY9.lt).below hx11 (Nat.lt_of_lt_of_le bY9.lt hb10.size)
        have cb11 := cb9.trans ((hb10.trans (hx11.mono hb10.size)).mono cb9.size)
        clear hIq oQ10 oP9 oU9 oT9 oX9 oY9 bU9 bP9 bT9 bX9 bY9 hb10 hx11 hs11 cb9 cU0 cU1 cU2
        generalize (partB u lb).isSome = pb at *
        go_upto_region 16 with fail
        generalize w10.alloc (.cells #[.int .i64 r.kind, .slice L6 r.labels.length l6, .slice A6 r.args.length a6] 36) = wB at *
        have hTl := bT11.lt
        have hXl := bX11.lt
        have hYl := bY11.lt
        have hPl := bP11.lt
        have hQl := bQ11.lt
        have KF : Hid (∀ z, Below wB.heap.size wB z → z.cell? ⟨w1.heap.size, 0, none⟩ = some (.int .i64 t.kind) ∧ z.cell? ⟨w1.heap.size, 1, none⟩ = some (.slice L1 t.labels.length l1) ∧ z.cell? ⟨w1.heap.size, 2, none⟩ = some (.slice A1 t.args.length a1) ∧ z.cell? ⟨w4.heap.size, 0, none⟩ = some (.int .i64 x.kind) ∧ z.cell? ⟨w4.heap.size, 1, none⟩ = some (.slice L2 x.labels.length l2) ∧ z.cell? ⟨w4.heap.size, 2, none⟩ = some (.slice A2 x.args.length a2) ∧ z.cell? ⟨w4.heap.size + 1, 0, none⟩ = some (.int .i64 y.kind) ∧ z.cell? ⟨w4.heap.size + 1, 1, none⟩ = some (.slice L3 y.labels.length l3) ∧ z.cell? ⟨w4.heap.size + 1, 2, none⟩ = some (.slice A3 y.args.length a3) ∧ z.cell? ⟨w8.heap.size, 0, none⟩ = some (.int .i64 r.kind) ∧ z.cell? ⟨w8.heap.size, 1, none⟩ = some (.slice L5 r.labels.length l5) ∧ z.cell? ⟨w8.heap.size, 2, none⟩ = some (.slice A5 r.args.length a5) ∧ z.cell? ⟨w10.heap.size, 0, none⟩ = some (.int .i64 r.kind) ∧ z.cell? ⟨w10.heap.size, 1, none⟩ = some (.slice L6 r.labels.length l6) ∧ z.cell? ⟨w10.heap.size, 2, none⟩ = some (.slice A6 r.args.length a6)) := Lib.hid (fun z h => ⟨(h.cell (p := ⟨w1.heap.size, 0, none⟩) hTl).trans (bT11.cell 0), (h.cell (p := ⟨w1.heap.size, 1, none⟩) hTl).trans (bT11.cell 1), (h.cell (p := ⟨w1.heap.size, 2, none⟩) hTl).trans (bT11.cell 2), (h.cell (p := ⟨w4.heap.size, 0, none⟩) hXl).trans (bX11.cell 0), (h.cell (p := ⟨w4.heap.size, 1, none⟩) hXl).trans (bX11.cell 1), (h.cell (p := ⟨w4.heap.size, 2, none⟩) hXl).trans (bX11.cell 2), (h.cell (p := ⟨w4.heap.size + 1, 0, none⟩) hYl).trans (bY11.cell 0), (h.cell (p := ⟨w4.heap.size + 1, 1, none⟩) hYl).trans (bY11.cell 1), (h.cell (p := ⟨w4.heap.size + 1, 2, none⟩) hYl).trans (bY11.cell 2), (h.cell (p := ⟨w8.heap.size, 0, none⟩) hPl).trans (bP11.cell 0), (h.cell (p := ⟨w8.heap.size, 1, none⟩) hPl).trans (bP11.cell 1), (h.cell (p := ⟨w8.heap.size, 2, none⟩) hPl).trans (bP11.cell 2), (h.cell (p := ⟨w10.heap.size, 0, none⟩) hQl).trans (bQ11.cell 0), (h.cell (p := ⟨w10.heap.size, 1, none⟩) hQl).trans (bQ11.cell 1), (h.cell (p := ⟨w10.heap.size, 2, none⟩) hQl).trans (bQ11.cell 2)⟩)
        have H1 := Lib.hid (fun z (h : Below wB.heap.size wB z) => implSizeOf_any t _ z (oT11.up h) (by omega))
        have H2 := Lib.hid (fun z (h : Below wB.heap.size wB z) => (show Calls Try.prog 32 #[_] z (IntBelow ((depthTys t.args : Int) + 1) z) from by
          have h0 := implDepthOf_any t _ z (oT11.up h) (by omega)
          have h1 : (depthTy t : Int) = (depthTys t.args : Int) + 1 := by omega
          rw [h1] at h0
          exact h0))
        have H3 := Lib.hid (fun z (h : Below wB.heap.size wB z) => implValid_any t _ z (oT11.up h) (by omega))
        have H4 := Lib.hid (fun z (h : Below wB.heap.size wB z) => specValid_any t _ z (oT11.up h).here (by omega))
        have H5 := Lib.hid (fun z (h : Below wB.heap.size wB z) => implEqual_any x y _ _ z (oX11.up h) (oY11.up h) (by have := size_le_sz x; omega))
        have H6 := Lib.hid (fun z (h : Below wB.heap.size wB z) => specEqual_any x y _ _ z (oX11.up h).here (oY11.up h).here)
        have H7 := Lib.hid (fun z (h : Below wB.heap.size wB z) => implEqual_any r r _ _ z (oP11.up h) (oQ11.up h) (by
          have h1 := part_sz u lb
          rw [HRR.out] at h1
          have := size_le_sz r
          omega))
        have H8 := Lib.hid (fun z (h : Below wB.heap.size wB z) => implUniform_any t _ z (oT11.up h) (by omega))
        have H9 := Lib.hid (fun z (h : Below wB.heap.size wB z) => specUniform_any t _ z (oT11.up h).here (by omega))
        rw [eqTyB_yes (rfl : r = r)] at H7
        generalize validB t = b1 at *
        generalize eqTyB x y = b2 at *
        generalize uniformB t = b3 at *
        have hwr : IntKind.i64.wrap ((depthTys t.args : Int) + 1) = (depthTys t.args : Int) + 1 := by rw [IntKind.wrap_i64]; omega
        have hD := (Below.refl wB.heap.size wB).drew
        have cD := KF.out wB.drew hD
        clear bT11 bX11 bY11 bP11 bQ11 oT11 oX11 oY11 oP11 oQ11
        go_region_held3 (fun z : World => z.cell? ⟨w1.heap.size, 0, none⟩ = some (.int .i64 t.kind) ∧ z.cell? ⟨w1.heap.size, 1, none⟩ = some (.slice L1 t.labels.length l1) ∧ z.cell? ⟨w1.heap.size, 2, none⟩ = some (.slice A1 t.args.length a1) ∧ z.cell? ⟨w4.heap.size, 0, none⟩ = some (.int .i64 x.kind) ∧ z.cell? ⟨w4.heap.size, 1, none⟩ = some (.slice L2 x.labels.length l2) ∧ z.cell? ⟨w4.heap.size, 2, none⟩ = some (.slice A2 x.args.length a2) ∧ z.cell? ⟨w4.heap.size + 1, 0, none⟩ = some (.int .i64 y.kind) ∧ z.cell? ⟨w4.heap.size + 1, 1, none⟩ = some (.slice L3 y.labels.length l3) ∧ z.cell? ⟨w4.heap.size + 1, 2, none⟩ = some (.slice A3 y.args.length a3) ∧ z.cell? ⟨w8.heap.size, 0, none⟩ = some (.int .i64 r.kind) ∧ z.cell? ⟨w8.heap.size, 1, none⟩ = some (.slice L5 r.labels.length l5) ∧ z.cell? ⟨w8.heap.size, 2, none⟩ = some (.slice A5 r.args.length a5) ∧ z.cell? ⟨w10.heap.size, 0, none⟩ = some (.int .i64 r.kind) ∧ z.cell? ⟨w10.heap.size, 1, none⟩ = some (.slice L6 r.labels.length l6) ∧ z.cell? ⟨w10.heap.size, 2, none⟩ = some (.slice A6 r.args.length a6))
          (first | (with_reducible exact cD) | (with_reducible exact cu1) | (with_reducible exact cu2) | (with_reducible exact cu3) | (with_reducible exact cu4) | (with_reducible exact cu5) | (with_reducible exact cu6) | (with_reducible exact cu7) | (with_reducible exact cu8) | (with_reducible exact cu9))
          (first | (go_at_call 31; (with_reducible refine (H1.out _ hD).mono ?_); rintro e u1 ⟨rfl, hn1⟩; have hu1 := hD.trans (hn1.mono hD.size); have cu1 := KF.out u1 hu1) | (go_at_call 32; (with_reducible refine (H2.out _ hu1).mono ?_); rintro e u2 ⟨rfl, hn2⟩; have hu2 := hu1.trans (hn2.mono hu1.size); have cu2 := KF.out u2 hu2) | (go_at_call 37; (with_reducible refine (H3.out _ hu2).mono ?_); rintro e u3 ⟨rfl, hn3⟩; have hu3 := hu2.trans (hn3.mono hu2.size); have cu3 := KF.out u3 hu3) | (go_at_call 38; (with_reducible refine (H4.out _ hu3).mono ?_); rintro e u4 ⟨rfl, hn4⟩; have hu4 := hu3.trans (hn4.mono hu3.size); have cu4 := KF.out u4 hu4) | (go_at_call 39; (with_reducible refine (H5.out _ hu4).mono ?_); rintro e u5 ⟨rfl, hn5⟩; have hu5 := hu4.trans (hn5.mono hu4.size); have cu5 := KF.out u5 hu5) | (go_at_call 40; (with_reducible refine (H6.out _ hu5).mono ?_); rintro e u6 ⟨rfl, hn6⟩; have hu6 := hu5.trans (hn6.mono hu5.size); have cu6 := KF.out u6 hu6) | (go_at_call 39; (with_reducible refine (H7.out _ hu6).mono ?_); rintro e u7 ⟨rfl, hn7⟩; have hu7 := hu6.trans (hn7.mono hu6.size); have cu7 := KF.out u7 hu7) | (go_at_call 41; (with_reducible refine (H8.out _ hu7).mono ?_); rintro e u8 ⟨rfl, hn8⟩; have hu8 := hu7.trans (hn8.mono hu7.size); have cu8 := KF.out u8 hu8) | (go_at_call 42; (with_reducible refine (H9.out _ hu8).mono ?_); rintro e u9 ⟨rfl, hn9⟩; have hu9 := hu8.trans (hn9.mono hu8.size); have cu9 := KF.out u9 hu9))
        go_wp2
        go_ret
        exact ⟨rfl, cb11.trans (hu9.mono cb11.size)⟩

theorem own : ownKnob Try.prog.godebug = none := by kernel_rfl
theorem laidOut : laidOutB Try.prog = true := by kernel_rfl

set_option maxRecDepth 100000 in
theorem lifted (os : Os) (started : os.Started) (H : Type) (enc : TypeId × Value → H) :
    ReturnsInHanded {} Try.checked os 4 .any (Rows.fnTypesSpec.pre6 enc Try.prog Try.f4 Rows.fnTypesRow.domain false) (Rows.fnTypesSpec.post enc Try.prog Try.f4 false true false false) := by
  refine law_lifted (C := Try.checked) (bt := 4) own laidOut started (by kernel_rfl) Try.func4 rfl rfl Try.underlying4 (by kernel_rfl) ?_
    (ChangeSpec.witness6 (enc := enc) (C := Try.checked) false ⟨#[], #[.slice none 0 0], []⟩ 8 (by kernel_rfl) (by kernel_rfl) (by kernel_rfl) (by kernel_rfl)) ?_
  · intro ds hd
    have : ds.length = 1 := hd
    match ds, this with
    | [d1], _ => rfl
  · intro W base args ds p hval0 hA0 hlt
    have hval : ∀ (j : Nat) t v, Try.f4.params[j]? = some t → args[j]? = some v → Value.okWide Try.prog W .any base t v := hval0
    have hA : DataW.TrodAll enc Try.prog W 0 (fun _ => true) true Try.f4.params.toList args.toList ds p := hA0
    rw [Try.params4] at hA hval
    obtain ⟨v0, d0, rfl, rfl, h0⟩ := trodAll_one hA
    obtain ⟨A0, a0, c0, rfl, ra0, la0⟩ := open_bytes_arg Try.underlying22 Try.underlying5 (by kernel_rfl) (hval 0 22 v0 rfl rfl) h0 (fun x hx => hlt x (by simp [hx]))
    exact walk A0 a0 c0 W ra0 la0

theorem over : Rows.FnTypesSaid :=
  OpenClaim.holds_of_wide 4 Try.f4 rfl rfl rfl rfl rfl rfl rfl ⟨rfl, rfl, rfl, rfl, rfl⟩ rfl rfl rfl rfl rfl (by kernel_rfl) Try.func4 (by kernel_rfl)
    (of_decide_eq_true (by kernel_rfl)) (by unfold Func.isWrapper; rw [if_neg (of_decide_eq_false (by kernel_rfl))]; exact ⟨rfl, rfl⟩)
    (fun os started H enc _ => lifted os started H enc)

theorem proved : Rows.FnTypesSaid := over

end Go.Proofs.Ytghipacdhpglcaa.lawFnTypes
