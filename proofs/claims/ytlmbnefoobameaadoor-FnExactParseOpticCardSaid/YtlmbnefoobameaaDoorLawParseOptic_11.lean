/- Lemmas: ReadO2, ReadO3, SpecJoin, SpecText. -/
import Derived.Test.YtlmbnefoobameaaDoorLawParseOptic_10
import Derived.Test.YtlmbnefoobameaaDoorLawParseOptic_7
import Derived.Test.YtlmbnefoobameaaDoorProg
import Derived.Test.YtlmbnefoobameaaDoorLawParseOptic_1
import Derived.Deep.DeepMust
import Derived.Test.YtlmbnefoobameaaDoorLawParseOptic_5

section
namespace Go.Proofs.YtlmbnefoobameaaDoor.OR
open Go Go.RowKit
theorem grown_undrew {w w' : World} {p : Option Nat} (h : w.drew.grownBy w' p) : w.grownBy w' p := ⟨h.os, h.tape, h.output, h.size, h.block⟩
attribute [local go_sem ↓] Go.wp_at_zero Go.wp_at_succ

/-- Two optics under way, in block z. -/
structure Pair (w W : World) (p r z : Nat) (k : Int) (c : Value) (s : ByteArray) (j : Nat) (bad : Bool) : Prop where
  hold : Hold w W p r s j bad
  box : Whole1 W z 50 #[.int .i64 k, .string ⟨#[]⟩, .int .i64 0, c]
theorem Pair.read {w W W' : World} {p r z j j' : Nat} {k : Int} {s : ByteArray} {c : Value} {bad bad' : Bool} (h : Pair w W p r z k c s j bad) (hr : RdAt W' p s j' bad') (hg : W.grownBy W' (some p)) (hrp : r ≠ p) (hz : z ≠ p) : Pair w W' p r z k c s j' bad' :=
  ⟨h.hold.read hr hg hrp, (hg.block z h.box.lt (fun e => by injection e with e; exact hz e)).trans h.box⟩
theorem Pair.more {w W W' : World} {p r z j B : Nat} {k : Int} {s : ByteArray} {c : Value} {bad : Bool} (h : Pair w W p r z k c s j bad) (hb : Below B W W') (hr : r < B) (hp : p < B) (hz : z < B) (hB : w.heap.size ≤ B) : Pair w W' p r z k c s j bad :=
  ⟨h.hold.more hb hr hp hB, h.box.below hb hz⟩
theorem Pair.put {w W : World} {p r z j : Nat} {k : Int} {s : ByteArray} {c : Value} {bad : Bool} (h : Pair w W p r z k c s j bad) (i : Nat) (v : Value) (hz : z ≠ p) (hr : z ≠ r) (hw : w.heap.size ≤ z) (hi : i = 3 := by rfl) : Pair w (W.setCell ⟨z, i, none⟩ v) p r z k v s j bad := by
  subst hi
  exact ⟨h.hold.set v hz hr hw, h.box.set 3 v⟩
theorem Pair.kind {w W : World} {p r z j : Nat} {k : Int} {s : ByteArray} {c : Value} {bad : Bool} (h : Pair w W p r z k c s j bad) (k' : Int) (hz : z ≠ p) (hr : z ≠ r) (hw : w.heap.size ≤ z) : Pair w (W.setCell ⟨z, 0, none⟩ (.int .i64 k')) p r z k' c s j bad :=
  ⟨h.hold.set _ hz hr hw, h.box.set 0 _⟩

set_option maxHeartbeats 8000000 in
set_option maxRecDepth 100000 in
theorem readTwo (n : Nat) (d : Int) (H : TypeOne n d) (w : World) (p i : Nat) (s : ByteArray) (hr : RdAt w p s i false) (hs : s.size ≤ 1048576) :
    Calls Tryd.prog 107 #[.pointer (some ⟨p, 0, none⟩), .int .i64 d] w (Does (rdTwo (rdOt n) (restOf s i)) w p s) := by
  have hpl := hr.lt
  have hrp : w.heap.size ≠ p := by omega
  obtain ⟨hb0, r0, hs0⟩ := boxes1 w 50 #[.int .i64 0, .string ⟨#[]⟩, .int .i64 0, .slice none 0 0]
  have HH0 := Lib.hid (⟨hr.below hb0 hpl, r0, grown_low (only_refl w (some p)) hb0 (Nat.le_refl _)⟩ : Hold w (w.alloc (.cells #[.int .i64 0, .string ⟨#[]⟩, .int .i64 0, .slice none 0 0] 50)) p w.heap.size s i false)
  have H2 := Lib.hid H
  clear hr r0 hb0 H
  go_enter Tryd.func107, Tryd.ntmps107
  go_upto_region 1 with fail
  generalize w.alloc (.cells #[.int .i64 0, .string ⟨#[]⟩, .int .i64 0, .slice none 0 0] 50) = w0 at *
  cases hty : rdOt n (restOf s i) with
  | none =>
    have HX := Lib.hid (show rdTwo (rdOt n) (restOf s i) = none by rw [rdTwo, hty])
    have HT := Lib.hid (H2.out.bad w0 p i s false HH0.out.rd hs (Or.inr hty))
    clear hty
    go_wp2_with fail
    refine HT.out.mono ?_
    rintro e w1 ⟨x, nm, y, A, m, ac, j, rfl, hr1, hg1⟩
    have HH1 := Lib.hid (HH0.out.read hr1 hg1 hrp)
    have hs1 := hg1.size
    obtain ⟨hb2, xa, x2, hs2⟩ := boxes2 w1 50 50 #[.int .i64 x, .string nm, .int .i64 y, .slice A m ac] #[.int .i64 12, .string ⟨#[]⟩, .int .i64 0, .slice none 0 0]
    have HP2 := Lib.hid (⟨HH1.out.more hb2 HH1.out.zero.lt HH1.out.rd.lt HH1.out.grown.size, x2⟩ : Pair w ((w1.alloc (.cells #[.int .i64 x, .string nm, .int .i64 y, .slice A m ac] 50)).alloc (.cells #[.int .i64 12, .string ⟨#[]⟩, .int .i64 0, .slice none 0 0] 50)) p w.heap.size (w1.heap.size + 1) 12 (.slice none 0 0) s j true)
    have HTK := Lib.hid (take_bad p j s 59 _ HP2.out.hold.rd)
    have hzp : w1.heap.size + 1 ≠ p := by omega
    have hzr : w1.heap.size + 1 ≠ w.heap.size := by omega
    have hzw : w.heap.size ≤ w1.heap.size + 1 := by omega
    clear hr1 hg1 hb2 xa x2 hs2
    go_wp2_with fail
    generalize (w1.alloc (.cells #[.int .i64 x, .string nm, .int .i64 y, .slice A m ac] 50)).alloc (.cells #[.int .i64 12, .string ⟨#[]⟩, .int .i64 0, .slice none 0 0] 50) = w2 at *
    generalize w1.heap.size + 1 = z at *
    refine HTK.out.mono ?_
    rintro e w3 ⟨rfl, hr3, hg3⟩
    have HP3 := Lib.hid (HP2.out.read hr3 hg3 hrp hzp)
    have q0 : w3.cell? ⟨z, 0, none⟩ = some (.int .i64 12) := HP3.out.box.cell 0
    have u0 : w3.frozen? ⟨z, 0, none⟩ = false := HP3.out.box.free 0
    have HP4 := Lib.hid (HP3.out.kind 13 hzp hzr hzw)
    have HMU := Lib.hid (must_no p j s true 124 _ HP4.out.hold.rd hs (Or.inl rfl))
    clear hr3 hg3
    go_wp2_with fail
    clear q0 u0
    generalize w3.setCell ⟨z, 0, none⟩ (.int .i64 13) = w4 at *
    refine HMU.out.mono ?_
    rintro e w5 ⟨rfl, hr5, hg5⟩
    have HP5 := Lib.hid (HP4.out.read hr5 hg5 hrp hzp)
    have b5 : w5.cell? ⟨p, 2, none⟩ = some (.bool true) := Whole1.cell hr5.1 2
    clear hr5 hg5
    have q0 : w5.cell? ⟨z, 0, none⟩ = some (.int .i64 13) := HP5.out.box.cell 0
    have q1 : w5.cell? ⟨z, 1, none⟩ = some (.string ⟨#[]⟩) := HP5.out.box.cell 1
    have q2 : w5.cell? ⟨z, 2, none⟩ = some (.int .i64 0) := HP5.out.box.cell 2
    have q3 : w5.cell? ⟨z, 3, none⟩ = some (.slice none 0 0) := HP5.out.box.cell 3
    have d0 : w5.cell? ⟨w.heap.size, 0, none⟩ = some (.int .i64 0) := HP5.out.hold.zero.cell 0
    have f0 : w5.frozen? ⟨w.heap.size, 0, none⟩ = false := HP5.out.hold.zero.free 0
    have d1 : w5.cell? ⟨w.heap.size, 1, none⟩ = some (.string ⟨#[]⟩) := HP5.out.hold.zero.cell 1
    have f1 : w5.frozen? ⟨w.heap.size, 1, none⟩ = false := HP5.out.hold.zero.free 1
    have d2 : w5.cell? ⟨w.heap.size, 2, none⟩ = some (.int .i64 0) := HP5.out.hold.zero.cell 2
    have f2 : w5.frozen? ⟨w.heap.size, 2, none⟩ = false := HP5.out.hold.zero.free 2
    have d3 : w5.cell? ⟨w.heap.size, 3, none⟩ = some (.slice none 0 0) := HP5.out.hold.zero.cell 3
    have f3 : w5.frozen? ⟨w.heap.size, 3, none⟩ = false := HP5.out.hold.zero.free 3
    go_wp2
    exact bodyPost_ret (v := .agg #[.int .i64 13, .string ⟨#[]⟩, .int .i64 0, .slice none 0 0]) (by simp [results, Tryd.results107, go_sem, d0, d1, d2, d3]) rfl (Or.inl ⟨HX.out, fin_bad HP5.out.hold hpl 13 0 ⟨#[]⟩ none 0 0 _ _ _ _⟩)
  | some aq =>
    obtain ⟨a, q⟩ := aq
    have HTY := Lib.hid hty
    have HT := Lib.hid (H2.out.good w0 p i s a q HH0.out.rd hs hty)
    clear hty
    go_wp2_with fail
    refine HT.out.mono ?_
    rintro e w1 ⟨v, j, rfl, hrr, hr1, hO1, hg1⟩
    have hI1 := hO1.owned
    obtain ⟨A, ac, rfl⟩ := hO1.open
    have HH1 := Lib.hid (HH0.out.read hr1 hg1 hrp)
    have hs1 := hg1.size
    subst hrr
    obtain ⟨hb2, xa, x2, hs2⟩ := boxes2 w1 50 50 #[.int .i64 a.kind, .string a.name, .int .i64 a.num, .slice A a.args.length ac] #[.int .i64 12, .string ⟨#[]⟩, .int .i64 0, .slice none 0 0]
    have HP2 := Lib.hid (⟨HH1.out.more hb2 HH1.out.zero.lt HH1.out.rd.lt HH1.out.grown.size, x2⟩ : Pair w ((w1.alloc (.cells #[.int .i64 a.kind, .string a.name, .int .i64 a.num, .slice A a.args.length ac] 50)).alloc (.cells #[.int .i64 12, .string ⟨#[]⟩, .int .i64 0, .slice none 0 0] 50)) p w.heap.size (w1.heap.size + 1) 12 (.slice none 0 0) s j false)
    have HXA2 := Lib.hid xa
    have HIA2 := Lib.hid (hI1.keep (w' := (w1.alloc (.cells #[.int .i64 a.kind, .string a.name, .int .i64 a.num, .slice A a.args.length ac] 50)).alloc (.cells #[.int .i64 12, .string ⟨#[]⟩, .int .i64 0, .slice none 0 0] 50)) fun g hg hl => hb2.block g hl)
    have hzp : w1.heap.size + 1 ≠ p := by omega
    have hyp : w1.heap.size ≠ p := by omega
    have hzr : w1.heap.size + 1 ≠ w.heap.size := by omega
    have hzw : w.heap.size ≤ w1.heap.size + 1 := by omega
    have hzl := x2.lt
    clear hr1 hg1 hb2 xa x2 hI1 hO1
    go_upto_region 3 with fail
    generalize (w1.alloc (.cells #[.int .i64 a.kind, .string a.name, .int .i64 a.num, .slice A a.args.length ac] 50)).alloc (.cells #[.int .i64 12, .string ⟨#[]⟩, .int .i64 0, .slice none 0 0] 50) = w2 at *
    generalize hyz : w1.heap.size + 1 = z at *
    generalize hy0 : w1.heap.size = y0 at *
    have hyne : y0 ≠ z := by omega
    by_cases h59 : ∃ hk : j < s.size, s[j] = 59
    · obtain ⟨hk, hc⟩ := h59
      have HX := Lib.hid (show rdTwo (rdOt n) (restOf s i) = rdLast (rdOt n) 12 a (restOf s (j + 1)) by rw [rdTwo, HTY.out]; simp only [eat_hit hk hc])
      have HTK := Lib.hid (take_yes p j s 59 w2 HP2.out.hold.rd hs hk hc)
      clear hc
      go_wp2_with fail
      refine HTK.out.mono ?_
      rintro e w5 ⟨rfl, hr5, hg5⟩
      have HP5 := Lib.hid (HP2.out.read hr5 hg5 hrp hzp)
      have HXA := Lib.hid (HXA2.out.grownO hg5 hyp)
      have hs5 := hg5.size
      have HIA := Lib.hid (HIA2.out.keep (w' := w5) (fun g hg hl => hg5.block g hl (fun e => by injection e with e; have := (osp _ hg).1; omega)))
      clear hr5 hg5
      have b5 : w5.cell? ⟨p, 2, none⟩ = some (.bool false) := Whole1.cell HP5.out.hold.rd.1 2
      go_upto_region 8 with fail
      have q0 : w5.drew.cell? ⟨y0, 0, none⟩ = some (.int .i64 a.kind) := HXA.out.cell 0
      have q1 : w5.drew.cell? ⟨y0, 1, none⟩ = some (.string a.name) := HXA.out.cell 1
      have q2 : w5.drew.cell? ⟨y0, 2, none⟩ = some (.int .i64 a.num) := HXA.out.cell 2
      have q3 : w5.drew.cell? ⟨y0, 3, none⟩ = some (.slice A a.args.length ac) := HXA.out.cell 3
      cases hty2 : rdOt n (restOf s (j + 1)) with
      | none =>
        have HX2 := Lib.hid (show rdTwo (rdOt n) (restOf s i) = none by rw [HX.out, rdLast, hty2])
        have HT2 := Lib.hid (H2.out.bad w5.drew p (j + 1) s false (HP5.out.hold.rd.drewN 1) hs (Or.inr hty2))
        clear hty2
        go_region_held3 (fun x' : World => x'.cell? ⟨y0, 0, none⟩ = some (.int .i64 a.kind) ∧ x'.cell? ⟨y0, 1, none⟩ = some (.string a.name) ∧ x'.cell? ⟨y0, 2, none⟩ = some (.int .i64 a.num) ∧ x'.cell? ⟨y0, 3, none⟩ = some (.slice A a.args.length ac)) (first | with_reducible exact ⟨q0, q1, q2, q3⟩ | with_reducible exact ⟨kc0, kc1, kc2, kc3⟩ | with_reducible exact ⟨ka0, ka1, ka2, ka3⟩ | with_reducible exact ⟨kb0, kb1, kb2, kb3⟩ | go_keep) (first | (go_simp; go_at_call 62; (with_reducible refine HT2.out.mono ?_); rintro e w7 ⟨x2, nm2, n2, B, m2, bc, j7, rfl, hr7, hg7'⟩; have hg7 := grown_undrew hg7'; have hs7 := hg7.size; have hP7 := HP5.out.read hr7 hg7 hrp hzp; have hx7 := HXA.out.grownO hg7 hyp; have kc0 : w7.cell? ⟨y0, 0, none⟩ = some (.int .i64 a.kind) := hx7.cell 0; have kc1 : w7.cell? ⟨y0, 1, none⟩ = some (.string a.name) := hx7.cell 1; have kc2 : w7.cell? ⟨y0, 2, none⟩ = some (.int .i64 a.num) := hx7.cell 2; have kc3 : w7.cell? ⟨y0, 3, none⟩ = some (.slice A a.args.length ac) := hx7.cell 3; have hb8 := (Below.refl w7.heap.size w7).alloc (Nat.le_refl _) (.cells #[.int .i64 a.kind, .string a.name, .int .i64 a.num, .slice A a.args.length ac, .int .i64 x2, .string nm2, .int .i64 n2, .slice B m2 bc] 50); have hP8 := hP7.more hb8 hP7.hold.zero.lt hP7.hold.rd.lt hP7.box.lt hP7.hold.grown.size; have hx8 := hx7.below hb8 hx7.lt; have ka0 : (w7.alloc (.cells #[.int .i64 a.kind, .string a.name, .int .i64 a.num, .slice A a.args.length ac, .int .i64 x2, .string nm2, .int .i64 n2, .slice B m2 bc] 50)).cell? ⟨y0, 0, none⟩ = some (.int .i64 a.kind) := hx8.cell 0; have ka1 : (w7.alloc (.cells #[.int .i64 a.kind, .string a.name, .int .i64 a.num, .slice A a.args.length ac, .int .i64 x2, .string nm2, .int .i64 n2, .slice B m2 bc] 50)).cell? ⟨y0, 1, none⟩ = some (.string a.name) := hx8.cell 1; have ka2 : (w7.alloc (.cells #[.int .i64 a.kind, .string a.name, .int .i64 a.num, .slice A a.args.length ac, .int .i64 x2, .string nm2, .int .i64 n2, .slice B m2 bc] 50)).cell? ⟨y0, 2, none⟩ = some (.int .i64 a.num) := hx8.cell 2; have ka3 : (w7.alloc (.cells #[.int .i64 a.kind, .string a.name, .int .i64 a.num, .slice A a.args.length ac, .int .i64 x2, .string nm2, .int .i64 n2, .slice B m2 bc] 50)).cell? ⟨y0, 3, none⟩ = some (.slice A a.args.length ac) := hx8.cell 3; have kb0 : ((w7.alloc (.cells #[.int .i64 a.kind, .string a.name, .int .i64 a.num, .slice A a.args.length ac, .int .i64 x2, .string nm2, .int .i64 n2, .slice B m2 bc] 50)).setCell ⟨z, 3, none⟩ (.slice (some ⟨w7.heap.size, 0, none⟩) 2 2)).cell? ⟨y0, 0, none⟩ = some (.int .i64 a.kind) := (World.cell?_setCell_far _ _ _ _ (fun e => hyne e.symm)).trans ka0; have kb1 : ((w7.alloc (.cells #[.int .i64 a.kind, .string a.name, .int .i64 a.num, .slice A a.args.length ac, .int .i64 x2, .string nm2, .int .i64 n2, .slice B m2 bc] 50)).setCell ⟨z, 3, none⟩ (.slice (some ⟨w7.heap.size, 0, none⟩) 2 2)).cell? ⟨y0, 1, none⟩ = some (.string a.name) := (World.cell?_setCell_far _ _ _ _ (fun e => hyne e.symm)).trans ka1; have kb2 : ((w7.alloc (.cells #[.int .i64 a.kind, .string a.name, .int .i64 a.num, .slice A a.args.length ac, .int .i64 x2, .string nm2, .int .i64 n2, .slice B m2 bc] 50)).setCell ⟨z, 3, none⟩ (.slice (some ⟨w7.heap.size, 0, none⟩) 2 2)).cell? ⟨y0, 2, none⟩ = some (.int .i64 a.num) := (World.cell?_setCell_far _ _ _ _ (fun e => hyne e.symm)).trans ka2; have kb3 : ((w7.alloc (.cells #[.int .i64 a.kind, .string a.name, .int .i64 a.num, .slice A a.args.length ac, .int .i64 x2, .string nm2, .int .i64 n2, .slice B m2 bc] 50)).setCell ⟨z, 3, none⟩ (.slice (some ⟨w7.heap.size, 0, none⟩) 2 2)).cell? ⟨y0, 3, none⟩ = some (.slice A a.args.length ac) := (World.cell?_setCell_far _ _ _ _ (fun e => hyne e.symm)).trans ka3; have c8 : (w7.alloc (.cells #[.int .i64 a.kind, .string a.name, .int .i64 a.num, .slice A a.args.length ac, .int .i64 x2, .string nm2, .int .i64 n2, .slice B m2 bc] 50)).cell? ⟨z, 3, none⟩ = some (.slice none 0 0) := hP8.box.cell 3; have g8 : (w7.alloc (.cells #[.int .i64 a.kind, .string a.name, .int .i64 a.num, .slice A a.args.length ac, .int .i64 x2, .string nm2, .int .i64 n2, .slice B m2 bc] 50)).frozen? ⟨z, 3, none⟩ = false := hP8.box.free 3; have HP9 := Lib.hid (hP8.put 3 (.slice (some ⟨w7.heap.size, 0, none⟩) 2 2) hzp hzr hzw); clear hr7 hg7 hg7' hP7 hx7 hb8 hP8 hx8))
        all_goals
          have HMU := Lib.hid (must_no p j7 s true 41 ((w7.alloc (.cells #[.int .i64 a.kind, .string a.name, .int .i64 a.num, .slice A a.args.length ac, .int .i64 x2, .string nm2, .int .i64 n2, .slice B m2 bc] 50)).setCell ⟨z, 3, none⟩ (.slice (some ⟨w7.heap.size, 0, none⟩) 2 2)) HP9.out.hold.rd hs (Or.inl rfl))
          generalize ((w7.alloc (.cells #[.int .i64 a.kind, .string a.name, .int .i64 a.num, .slice A a.args.length ac, .int .i64 x2, .string nm2, .int .i64 n2, .slice B m2 bc] 50)).setCell ⟨z, 3, none⟩ (.slice (some ⟨w7.heap.size, 0, none⟩) 2 2)) = w9 at *
          go_wp2_with fail
          refine HMU.out.mono ?_
          rintro e w10 ⟨rfl, hr10, hg10⟩
          have HP10 := Lib.hid (HP9.out.read hr10 hg10 hrp hzp)
          have e0 : w10.cell? ⟨z, 0, none⟩ = some (.int .i64 12) := HP10.out.box.cell 0
          have e1 : w10.cell? ⟨z, 1, none⟩ = some (.string ⟨#[]⟩) := HP10.out.box.cell 1
          have e2 : w10.cell? ⟨z, 2, none⟩ = some (.int .i64 0) := HP10.out.box.cell 2
          have e3 : w10.cell? ⟨z, 3, none⟩ = some (.slice (some ⟨w7.heap.size, 0, none⟩) 2 2) := HP10.out.box.cell 3
          clear hr10 hg10
          have d0 : w10.cell? ⟨w.heap.size, 0, none⟩ = some (.int .i64 0) := HP10.out.hold.zero.cell 0
          have f0 : w10.frozen? ⟨w.heap.size, 0, none⟩ = false := HP10.out.hold.zero.free 0
          have d1 : w10.cell? ⟨w.heap.size, 1, none⟩ = some (.string ⟨#[]⟩) := HP10.out.hold.zero.cell 1
          have f1 : w10.frozen? ⟨w.heap.size, 1, none⟩ = false := HP10.out.hold.zero.free 1
          have d2 : w10.cell? ⟨w.heap.size, 2, none⟩ = some (.int .i64 0) := HP10.out.hold.zero.cell 2
          have f2 : w10.frozen? ⟨w.heap.size, 2, none⟩ = false := HP10.out.hold.zero.free 2
          have d3 : w10.cell? ⟨w.heap.size, 3, none⟩ = some (.slice none 0 0) := HP10.out.hold.zero.cell 3
          have f3 : w10.frozen? ⟨w.heap.size, 3, none⟩ = false := HP10.out.hold.zero.free 3
          go_wp2
          exact bodyPost_ret (v := .agg #[.int .i64 12, .string ⟨#[]⟩, .int .i64 0, .slice (some ⟨w7.heap.size, 0, none⟩) 2 2]) (by simp [results, Tryd.results107, go_sem, d0, d1, d2, d3]) rfl (Or.inl ⟨HX2.out, fin_bad HP10.out.hold hpl 12 0 ⟨#[]⟩ _ 2 2 _ _ _ _⟩)
      | some br =>
        obtain ⟨b, q2⟩ := br
        have HTY2 := Lib.hid hty2
        have HT2 := Lib.hid (H2.out.good w5.drew p (j + 1) s b q2 (HP5.out.hold.rd.drewN 1) hs hty2)
        clear hty2
        go_region_held3 (fun x' : World => x'.cell? ⟨y0, 0, none⟩ = some (.int .i64 a.kind) ∧ x'.cell? ⟨y0, 1, none⟩ = some (.string a.name) ∧ x'.cell? ⟨y0, 2, none⟩ = some (.int .i64 a.num) ∧ x'.cell? ⟨y0, 3, none⟩ = some (.slice A a.args.length ac)) (first | with_reducible exact ⟨q0, q1, q2, q3⟩ | with_reducible exact ⟨kc0, kc1, kc2, kc3⟩ | with_reducible exact ⟨ka0, ka1, ka2, ka3⟩ | with_reducible exact ⟨kb0, kb1, kb2, kb3⟩ | go_keep) (first | (go_simp; go_at_call 62; (with_reducible refine HT2.out.mono ?_); rintro e w7 ⟨v7, j7, rfl, hrr7, hr7, hO7, hg7'⟩; have hg7 := grown_undrew hg7'; have hs7 := hg7.size; have hI7 := hO7.owned; obtain ⟨B, bc, rfl⟩ := hO7.open; have hP7 := HP5.out.read hr7 hg7 hrp hzp; have hx7 := HXA.out.grownO hg7 hyp; have kc0 : w7.cell? ⟨y0, 0, none⟩ = some (.int .i64 a.kind) := hx7.cell 0; have kc1 : w7.cell? ⟨y0, 1, none⟩ = some (.string a.name) := hx7.cell 1; have kc2 : w7.cell? ⟨y0, 2, none⟩ = some (.int .i64 a.num) := hx7.cell 2; have kc3 : w7.cell? ⟨y0, 3, none⟩ = some (.slice A a.args.length ac) := hx7.cell 3; have hb8 := (Below.refl w7.heap.size w7).alloc (Nat.le_refl _) (.cells #[.int .i64 a.kind, .string a.name, .int .i64 a.num, .slice A a.args.length ac, .int .i64 b.kind, .string b.name, .int .i64 b.num, .slice B b.args.length bc] 50); have hP8 := hP7.more hb8 hP7.hold.zero.lt hP7.hold.rd.lt hP7.box.lt hP7.hold.grown.size; have hx8 := hx7.below hb8 hx7.lt; have ka0 : (w7.alloc (.cells #[.int .i64 a.kind, .string a.name, .int .i64 a.num, .slice A a.args.length ac, .int .i64 b.kind, .string b.name, .int .i64 b.num, .slice B b.args.length bc] 50)).cell? ⟨y0, 0, none⟩ = some (.int .i64 a.kind) := hx8.cell 0; have ka1 : (w7.alloc (.cells #[.int .i64 a.kind, .string a.name, .int .i64 a.num, .slice A a.args.length ac, .int .i64 b.kind, .string b.name, .int .i64 b.num, .slice B b.args.length bc] 50)).cell? ⟨y0, 1, none⟩ = some (.string a.name) := hx8.cell 1; have ka2 : (w7.alloc (.cells #[.int .i64 a.kind, .string a.name, .int .i64 a.num, .slice A a.args.length ac, .int .i64 b.kind, .string b.name, .int .i64 b.num, .slice B b.args.length bc] 50)).cell? ⟨y0, 2, none⟩ = some (.int .i64 a.num) := hx8.cell 2; have ka3 : (w7.alloc (.cells #[.int .i64 a.kind, .string a.name, .int .i64 a.num, .slice A a.args.length ac, .int .i64 b.kind, .string b.name, .int .i64 b.num, .slice B b.args.length bc] 50)).cell? ⟨y0, 3, none⟩ = some (.slice A a.args.length ac) := hx8.cell 3; have kb0 : ((w7.alloc (.cells #[.int .i64 a.kind, .string a.name, .int .i64 a.num, .slice A a.args.length ac, .int .i64 b.kind, .string b.name, .int .i64 b.num, .slice B b.args.length bc] 50)).setCell ⟨z, 3, none⟩ (.slice (some ⟨w7.heap.size, 0, none⟩) 2 2)).cell? ⟨y0, 0, none⟩ = some (.int .i64 a.kind) := (World.cell?_setCell_far _ _ _ _ (fun e => hyne e.symm)).trans ka0; have kb1 : ((w7.alloc (.cells #[.int .i64 a.kind, .string a.name, .int .i64 a.num, .slice A a.args.length ac, .int .i64 b.kind, .string b.name, .int .i64 b.num, .slice B b.args.length bc] 50)).setCell ⟨z, 3, none⟩ (.slice (some ⟨w7.heap.size, 0, none⟩) 2 2)).cell? ⟨y0, 1, none⟩ = some (.string a.name) := (World.cell?_setCell_far _ _ _ _ (fun e => hyne e.symm)).trans ka1; have kb2 : ((w7.alloc (.cells #[.int .i64 a.kind, .string a.name, .int .i64 a.num, .slice A a.args.length ac, .int .i64 b.kind, .string b.name, .int .i64 b.num, .slice B b.args.length bc] 50)).setCell ⟨z, 3, none⟩ (.slice (some ⟨w7.heap.size, 0, none⟩) 2 2)).cell? ⟨y0, 2, none⟩ = some (.int .i64 a.num) := (World.cell?_setCell_far _ _ _ _ (fun e => hyne e.symm)).trans ka2; have kb3 : ((w7.alloc (.cells #[.int .i64 a.kind, .string a.name, .int .i64 a.num, .slice A a.args.length ac, .int .i64 b.kind, .string b.name, .int .i64 b.num, .slice B b.args.length bc] 50)).setCell ⟨z, 3, none⟩ (.slice (some ⟨w7.heap.size, 0, none⟩) 2 2)).cell? ⟨y0, 3, none⟩ = some (.slice A a.args.length ac) := (World.cell?_setCell_far _ _ _ _ (fun e => hyne e.symm)).trans ka3; have c8 : (w7.alloc (.cells #[.int .i64 a.kind, .string a.name, .int .i64 a.num, .slice A a.args.length ac, .int .i64 b.kind, .string b.name, .int .i64 b.num, .slice B b.args.length bc] 50)).cell? ⟨z, 3, none⟩ = some (.slice none 0 0) := hP8.box.cell 3; have g8 : (w7.alloc (.cells #[.int .i64 a.kind, .string a.name, .int .i64 a.num, .slice A a.args.length ac, .int .i64 b.kind, .string b.name, .int .i64 b.num, .slice B b.args.length bc] 50)).frozen? ⟨z, 3, none⟩ = false := hP8.box.free 3; have HP9 := Lib.hid (hP8.put 3 (.slice (some ⟨w7.heap.size, 0, none⟩) 2 2) hzp hzr hzw); have HO9 := Lib.hid (own_otwo_set (w1 := w7) (base := w.heap.size + 1) (z := z) (o := 3) (v := .slice (some ⟨w7.heap.size, 0, none⟩) 2 2) 12 0 ⟨#[]⟩ (Nat.zero_le _) (lo0 := w0.heap.size) (hi0 := y0) (lo1 := w5.heap.size) (hi1 := w7.heap.size) (by omega) (by omega) (by omega) (by omega) (by omega) (by omega) (by omega) (HIA.out.keep (w' := w7) (fun g hg hl => hg7.block g hl (fun e => by injection e with e; have := (osp _ hg).1; omega))) hI7); have hq7 := Lib.hid hrr7; clear hI7; clear hr7 hg7 hg7' hP7 hx7 hb8 hP8 hx8))
        all_goals
          by_cases h41 : ∃ hk : j7 < s.size, s[j7] = 41
          · obtain ⟨hk7, hc7⟩ := h41
            have HX2 := Lib.hid (show rdTwo (rdOt n) (restOf s i) = some (.mk 12 0 ⟨#[]⟩ [a, b], restOf s (j7 + 1)) by rw [HX.out, rdLast, HTY2.out]; simp only [hq7.out, eat_hit hk7 hc7])
            have HMU := Lib.hid (must_yes p j7 s 41 ((w7.alloc (.cells #[.int .i64 a.kind, .string a.name, .int .i64 a.num, .slice A a.args.length ac, .int .i64 b.kind, .string b.name, .int .i64 b.num, .slice B b.args.length bc] 50)).setCell ⟨z, 3, none⟩ (.slice (some ⟨w7.heap.size, 0, none⟩) 2 2)) HP9.out.hold.rd hs hk7 hc7)
            generalize ((w7.alloc (.cells #[.int .i64 a.kind, .string a.name, .int .i64 a.num, .slice A a.args.length ac, .int .i64 b.kind, .string b.name, .int .i64 b.num, .slice B b.args.length bc] 50)).setCell ⟨z, 3, none⟩ (.slice (some ⟨w7.heap.size, 0, none⟩) 2 2)) = w9 at *
            go_wp2_with fail
            refine HMU.out.mono ?_
            rintro e w10 ⟨rfl, hr10, hg10⟩
            have HP10 := Lib.hid (HP9.out.read hr10 hg10 hrp hzp)
            have HO10 := Lib.hid (HO9.out.keep hg10.size fun g hg hl => hg10.block g hl (fun e => by injection e with e; omega))
            have e0 : w10.cell? ⟨z, 0, none⟩ = some (.int .i64 12) := HP10.out.box.cell 0
            have e1 : w10.cell? ⟨z, 1, none⟩ = some (.string ⟨#[]⟩) := HP10.out.box.cell 1
            have e2 : w10.cell? ⟨z, 2, none⟩ = some (.int .i64 0) := HP10.out.box.cell 2
            have e3 : w10.cell? ⟨z, 3, none⟩ = some (.slice (some ⟨w7.heap.size, 0, none⟩) 2 2) := HP10.out.box.cell 3
            clear hr10 hg10
            have d0 : w10.cell? ⟨w.heap.size, 0, none⟩ = some (.int .i64 0) := HP10.out.hold.zero.cell 0
            have f0 : w10.frozen? ⟨w.heap.size, 0, none⟩ = false := HP10.out.hold.zero.free 0
            have d1 : w10.cell? ⟨w.heap.size, 1, none⟩ = some (.string ⟨#[]⟩) := HP10.out.hold.zero.cell 1
            have f1 : w10.frozen? ⟨w.heap.size, 1, none⟩ = false := HP10.out.hold.zero.free 1
            have d2 : w10.cell? ⟨w.heap.size, 2, none⟩ = some (.int .i64 0) := HP10.out.hold.zero.cell 2
            have f2 : w10.frozen? ⟨w.heap.size, 2, none⟩ = false := HP10.out.hold.zero.free 2
            have d3 : w10.cell? ⟨w.heap.size, 3, none⟩ = some (.slice none 0 0) := HP10.out.hold.zero.cell 3
            have f3 : w10.frozen? ⟨w.heap.size, 3, none⟩ = false := HP10.out.hold.zero.free 3
            go_wp2
            exact bodyPost_ret (v := .agg #[.int .i64 12, .string ⟨#[]⟩, .int .i64 0, .slice (some ⟨w7.heap.size, 0, none⟩) 2 2]) (by simp [results, Tryd.results107, go_sem, d0, d1, d2, d3]) rfl (Or.inr ⟨_, _, HX2.out, fin_good HP10.out.hold HO10.out hpl _ _ _ _⟩)
          · have HX2 := Lib.hid (show rdTwo (rdOt n) (restOf s i) = none by rw [HX.out, rdLast, HTY2.out]; simp only [hq7.out, eat_miss h41])
            have HMU := Lib.hid (must_no p j7 s false 41 ((w7.alloc (.cells #[.int .i64 a.kind, .string a.name, .int .i64 a.num, .slice A a.args.length ac, .int .i64 b.kind, .string b.name, .int .i64 b.num, .slice B b.args.length bc] 50)).setCell ⟨z, 3, none⟩ (.slice (some ⟨w7.heap.size, 0, none⟩) 2 2)) HP9.out.hold.rd hs (Or.inr (eat_miss h41)))
            generalize ((w7.alloc (.cells #[.int .i64 a.kind, .string a.name, .int .i64 a.num, .slice A a.args.length ac, .int .i64 b.kind, .string b.name, .int .i64 b.num, .slice B b.args.length bc] 50)).setCell ⟨z, 3, none⟩ (.slice (some ⟨w7.heap.size, 0, none⟩) 2 2)) = w9 at *
            go_wp2_with fail
            refine HMU.out.mono ?_
            rintro e w10 ⟨rfl, hr10, hg10⟩
            have HP10 := Lib.hid (HP9.out.read hr10 hg10 hrp hzp)
            have e0 : w10.cell? ⟨z, 0, none⟩ = some (.int .i64 12) := HP10.out.box.cell 0
            have e1 : w10.cell? ⟨z, 1, none⟩ = some (.string ⟨#[]⟩) := HP10.out.box.cell 1
            have e2 : w10.cell? ⟨z, 2, none⟩ = some (.int .i64 0) := HP10.out.box.cell 2
            have e3 : w10.cell? ⟨z, 3, none⟩ = some (.slice (some ⟨w7.heap.size, 0, none⟩) 2 2) := HP10.out.box.cell 3
            clear hr10 hg10
            have d0 : w10.cell? ⟨w.heap.size, 0, none⟩ = some (.int .i64 0) := HP10.out.hold.zero.cell 0
            have f0 : w10.frozen? ⟨w.heap.size, 0, none⟩ = false := HP10.out.hold.zero.free 0
            have d1 : w10.cell? ⟨w.heap.size, 1, none⟩ = some (.string ⟨#[]⟩) := HP10.out.hold.zero.cell 1
            have f1 : w10.frozen? ⟨w.heap.size, 1, none⟩ = false := HP10.out.hold.zero.free 1
            have d2 : w10.cell? ⟨w.heap.size, 2, none⟩ = some (.int .i64 0) := HP10.out.hold.zero.cell 2
            have f2 : w10.frozen? ⟨w.heap.size, 2, none⟩ = false := HP10.out.hold.zero.free 2
            have d3 : w10.cell? ⟨w.heap.size, 3, none⟩ = some (.slice none 0 0) := HP10.out.hold.zero.cell 3
            have f3 : w10.frozen? ⟨w.heap.size, 3, none⟩ = false := HP10.out.hold.zero.free 3
            go_wp2
            exact bodyPost_ret (v := .agg #[.int .i64 12, .string ⟨#[]⟩, .int .i64 0, .slice (some ⟨w7.heap.size, 0, none⟩) 2 2]) (by simp [results, Tryd.results107, go_sem, d0, d1, d2, d3]) rfl (Or.inl ⟨HX2.out, fin_bad HP10.out.hold hpl 12 0 ⟨#[]⟩ _ 2 2 _ _ _ _⟩)
    · have h59' := eat_miss h59
      have HTK := Lib.hid (take_other p j s 59 w2 HP2.out.hold.rd hs h59')
      have H59 := Lib.hid h59'
      clear h59 h59'
      go_wp2_with fail
      refine HTK.out.mono ?_
      rintro e w3 ⟨rfl, hr3, hg3⟩
      have HP3 := Lib.hid (HP2.out.read hr3 hg3 hrp hzp)
      have HXA3 := HXA2.out.grownO hg3 hyp
      have hs3 := hg3.size
      have HIA3 := HIA2.out.keep (w' := w3) (fun g hg hl => hg3.block g hl (fun e => by injection e with e; have := (osp _ hg).1; omega))
      have q0 : w3.cell? ⟨z, 0, none⟩ = some (.int .i64 12) := HP3.out.box.cell 0
      have u0 : w3.frozen? ⟨z, 0, none⟩ = false := HP3.out.box.free 0
      have HP4 := Lib.hid (HP3.out.kind 13 hzp hzr hzw)
      have HXA4 : Hid (Whole1 (w3.setCell ⟨z, 0, none⟩ (.int .i64 13)) y0 50 #[.int .i64 a.kind, .string a.name, .int .i64 a.num, .slice A a.args.length ac]) := Lib.hid ((Below.heap_setCell w3 ⟨z, 0, none⟩ (.int .i64 13) y0 (by show y0 ≠ z; omega)).trans HXA3)
      have HIA4 := Lib.hid (HIA3.keep (w' := w3.setCell ⟨z, 0, none⟩ (.int .i64 13)) (fun g hg hl => Below.heap_setCell _ _ _ _ (by have := (osp _ hg).2; show g ≠ z; omega)))
      have hs4 : (w3.setCell ⟨z, 0, none⟩ (.int .i64 13)).heap.size = w3.heap.size := by simp [World.setCell]
      clear hr3 hg3 HXA3 HIA3
      by_cases h124 : ∃ hk : j < s.size, s[j] = 124
      · obtain ⟨hk, hc⟩ := h124
        have HX := Lib.hid (show rdTwo (rdOt n) (restOf s i) = rdLast (rdOt n) 13 a (restOf s (j + 1)) by rw [rdTwo, HTY.out]; simp only [H59.out, eat_hit hk hc])
        have HMU := Lib.hid (must_yes p j s 124 _ HP4.out.hold.rd hs hk hc)
        clear hc
        go_wp2_with fail
        clear q0 u0
        generalize w3.setCell ⟨z, 0, none⟩ (.int .i64 13) = w4 at *
        refine HMU.out.mono ?_
        rintro e w5 ⟨rfl, hr5, hg5⟩
        have HP5 := Lib.hid (HP4.out.read hr5 hg5 hrp hzp)
        have HXA := Lib.hid (HXA4.out.grownO hg5 hyp)
        have hs5 := hg5.size
        have HIA := Lib.hid (HIA4.out.keep (w' := w5) (fun g hg hl => hg5.block g hl (fun e => by injection e with e; have := (osp _ hg).1; omega)))
        clear hr5 hg5
        have b5 : w5.cell? ⟨p, 2, none⟩ = some (.bool false) := Whole1.cell HP5.out.hold.rd.1 2
        go_upto_region 8 with fail
        have q0 : w5.drew.cell? ⟨y0, 0, none⟩ = some (.int .i64 a.kind) := HXA.out.cell 0
        have q1 : w5.drew.cell? ⟨y0, 1, none⟩ = some (.string a.name) := HXA.out.cell 1
        have q2 : w5.drew.cell? ⟨y0, 2, none⟩ = some (.int .i64 a.num) := HXA.out.cell 2
        have q3 : w5.drew.cell? ⟨y0, 3, none⟩ = some (.slice A a.args.length ac) := HXA.out.cell 3
        cases hty2 : rdOt n (restOf s (j + 1)) with
        | none =>
          have HX2 := Lib.hid (show rdTwo (rdOt n) (restOf s i) = none by rw [HX.out, rdLast, hty2])
          have HT2 := Lib.hid (H2.out.bad w5.drew p (j + 1) s false (HP5.out.hold.rd.drewN 1) hs (Or.inr hty2))
          clear hty2
          go_region_held3 (fun x' : World => x'.cell? ⟨y0, 0, none⟩ = some (.int .i64 a.kind) ∧ x'.cell? ⟨y0, 1, none⟩ = some (.string a.name) ∧ x'.cell? ⟨y0, 2, none⟩ = some (.int .i64 a.num) ∧ x'.cell? ⟨y0, 3, none⟩ = some (.slice A a.args.length ac)) (first | with_reducible exact ⟨q0, q1, q2, q3⟩ | with_reducible exact ⟨kc0, kc1, kc2, kc3⟩ | with_reducible exact ⟨ka0, ka1, ka2, ka3⟩ | with_reducible exact ⟨kb0, kb1, kb2, kb3⟩ | go_keep) (first | (go_simp; go_at_call 62; (with_reducible refine HT2.out.mono ?_); rintro e w7 ⟨x2, nm2, n2, B, m2, bc, j7, rfl, hr7, hg7'⟩; have hg7 := grown_undrew hg7'; have hs7 := hg7.size; have hP7 := HP5.out.read hr7 hg7 hrp hzp; have hx7 := HXA.out.grownO hg7 hyp; have kc0 : w7.cell? ⟨y0, 0, none⟩ = some (.int .i64 a.kind) := hx7.cell 0; have kc1 : w7.cell? ⟨y0, 1, none⟩ = some (.string a.name) := hx7.cell 1; have kc2 : w7.cell? ⟨y0, 2, none⟩ = some (.int .i64 a.num) := hx7.cell 2; have kc3 : w7.cell? ⟨y0, 3, none⟩ = some (.slice A a.args.length ac) := hx7.cell 3; have hb8 := (Below.refl w7.heap.size w7).alloc (Nat.le_refl _) (.cells #[.int .i64 a.kind, .string a.name, .int .i64 a.num, .slice A a.args.length ac, .int .i64 x2, .string nm2, .int .i64 n2, .slice B m2 bc] 50); have hP8 := hP7.more hb8 hP7.hold.zero.lt hP7.hold.rd.lt hP7.box.lt hP7.hold.grown.size; have hx8 := hx7.below hb8 hx7.lt; have ka0 : (w7.alloc (.cells #[.int .i64 a.kind, .string a.name, .int .i64 a.num, .slice A a.args.length ac, .int .i64 x2, .string nm2, .int .i64 n2, .slice B m2 bc] 50)).cell? ⟨y0, 0, none⟩ = some (.int .i64 a.kind) := hx8.cell 0; have ka1 : (w7.alloc (.cells #[.int .i64 a.kind, .string a.name, .int .i64 a.num, .slice A a.args.length ac, .int .i64 x2, .string nm2, .int .i64 n2, .slice B m2 bc] 50)).cell? ⟨y0, 1, none⟩ = some (.string a.name) := hx8.cell 1; have ka2 : (w7.alloc (.cells #[.int .i64 a.kind, .string a.name, .int .i64 a.num, .slice A a.args.length ac, .int .i64 x2, .string nm2, .int .i64 n2, .slice B m2 bc] 50)).cell? ⟨y0, 2, none⟩ = some (.int .i64 a.num) := hx8.cell 2; have ka3 : (w7.alloc (.cells #[.int .i64 a.kind, .string a.name, .int .i64 a.num, .slice A a.args.length ac, .int .i64 x2, .string nm2, .int .i64 n2, .slice B m2 bc] 50)).cell? ⟨y0, 3, none⟩ = some (.slice A a.args.length ac) := hx8.cell 3; have kb0 : ((w7.alloc (.cells #[.int .i64 a.kind, .string a.name, .int .i64 a.num, .slice A a.args.length ac, .int .i64 x2, .string nm2, .int .i64 n2, .slice B m2 bc] 50)).setCell ⟨z, 3, none⟩ (.slice (some ⟨w7.heap.size, 0, none⟩) 2 2)).cell? ⟨y0, 0, none⟩ = some (.int .i64 a.kind) := (World.cell?_setCell_far _ _ _ _ (fun e => hyne e.symm)).trans ka0; have kb1 : ((w7.alloc (.cells #[.int .i64 a.kind, .string a.name, .int .i64 a.num, .slice A a.args.length ac, .int .i64 x2, .string nm2, .int .i64 n2, .slice B m2 bc] 50)).setCell ⟨z, 3, none⟩ (.slice (some ⟨w7.heap.size, 0, none⟩) 2 2)).cell? ⟨y0, 1, none⟩ = some (.string a.name) := (World.cell?_setCell_far _ _ _ _ (fun e => hyne e.symm)).trans ka1; have kb2 : ((w7.alloc (.cells #[.int .i64 a.kind, .string a.name, .int .i64 a.num, .slice A a.args.length ac, .int .i64 x2, .string nm2, .int .i64 n2, .slice B m2 bc] 50)).setCell ⟨z, 3, none⟩ (.slice (some ⟨w7.heap.size, 0, none⟩) 2 2)).cell? ⟨y0, 2, none⟩ = some (.int .i64 a.num) := (World.cell?_setCell_far _ _ _ _ (fun e => hyne e.symm)).trans ka2; have kb3 : ((w7.alloc (.cells #[.int .i64 a.kind, .string a.name, .int .i64 a.num, .slice A a.args.length ac, .int .i64 x2, .string nm2, .int .i64 n2, .slice B m2 bc] 50)).setCell ⟨z, 3, none⟩ (.slice (some ⟨w7.heap.size, 0, none⟩) 2 2)).cell? ⟨y0, 3, none⟩ = some (.slice A a.args.length ac) := (World.cell?_setCell_far _ _ _ _ (fun e => hyne e.symm)).trans ka3; have c8 : (w7.alloc (.cells #[.int .i64 a.kind, .string a.name, .int .i64 a.num, .slice A a.args.length ac, .int .i64 x2, .string nm2, .int .i64 n2, .slice B m2 bc] 50)).cell? ⟨z, 3, none⟩ = some (.slice none 0 0) := hP8.box.cell 3; have g8 : (w7.alloc (.cells #[.int .i64 a.kind, .string a.name, .int .i64 a.num, .slice A a.args.length ac, .int .i64 x2, .string nm2, .int .i64 n2, .slice B m2 bc] 50)).frozen? ⟨z, 3, none⟩ = false := hP8.box.free 3; have HP9 := Lib.hid (hP8.put 3 (.slice (some ⟨w7.heap.size, 0, none⟩) 2 2) hzp hzr hzw); clear hr7 hg7 hg7' hP7 hx7 hb8 hP8 hx8))
          all_goals
            have HMU := Lib.hid (must_no p j7 s true 41 ((w7.alloc (.cells #[.int .i64 a.kind, .string a.name, .int .i64 a.num, .slice A a.args.length ac, .int .i64 x2, .string nm2, .int .i64 n2, .slice B m2 bc] 50)).setCell ⟨z, 3, none⟩ (.slice (some ⟨w7.heap.size, 0, none⟩) 2 2)) HP9.out.hold.rd hs (Or.inl rfl))
            generalize ((w7.alloc (.cells #[.int .i64 a.kind, .string a.name, .int .i64 a.num, .slice A a.args.length ac, .int .i64 x2, .string nm2, .int .i64 n2, .slice B m2 bc] 50)).setCell ⟨z, 3, none⟩ (.slice (some ⟨w7.heap.size, 0, none⟩) 2 2)) = w9 at *
            go_wp2_with fail
            refine HMU.out.mono ?_
            rintro e w10 ⟨rfl, hr10, hg10⟩
            have HP10 := Lib.hid (HP9.out.read hr10 hg10 hrp hzp)
            have e0 : w10.cell? ⟨z, 0, none⟩ = some (.int .i64 13) := HP10.out.box.cell 0
            have e1 : w10.cell? ⟨z, 1, none⟩ = some (.string ⟨#[]⟩) := HP10.out.box.cell 1
            have e2 : w10.cell? ⟨z, 2, none⟩ = some (.int .i64 0) := HP10.out.box.cell 2
            have e3 : w10.cell? ⟨z, 3, none⟩ = some (.slice (some ⟨w7.heap.size, 0, none⟩) 2 2) := HP10.out.box.cell 3
            clear hr10 hg10
            have d0 : w10.cell? ⟨w.heap.size, 0, none⟩ = some (.int .i64 0) := HP10.out.hold.zero.cell 0
            have f0 : w10.frozen? ⟨w.heap.size, 0, none⟩ = false := HP10.out.hold.zero.free 0
            have d1 : w10.cell? ⟨w.heap.size, 1, none⟩ = some (.string ⟨#[]⟩) := HP10.out.hold.zero.cell 1
            have f1 : w10.frozen? ⟨w.heap.size, 1, none⟩ = false := HP10.out.hold.zero.free 1
            have d2 : w10.cell? ⟨w.heap.size, 2, none⟩ = some (.int .i64 0) := HP10.out.hold.zero.cell 2
            have f2 : w10.frozen? ⟨w.heap.size, 2, none⟩ = false := HP10.out.hold.zero.free 2
            have d3 : w10.cell? ⟨w.heap.size, 3, none⟩ = some (.slice none 0 0) := HP10.out.hold.zero.cell 3
            have f3 : w10.frozen? ⟨w.heap.size, 3, none⟩ = false := HP10.out.hold.zero.free 3
            go_wp2
            exact bodyPost_ret (v := .agg #[.int .i64 13, .string ⟨#[]⟩, .int .i64 0, .slice (some ⟨w7.heap.size, 0, none⟩) 2 2]) (by simp [results, Tryd.results107, go_sem, d0, d1, d2, d3]) rfl (Or.inl ⟨HX2.out, fin_bad HP10.out.hold hpl 13 0 ⟨#[]⟩ _ 2 2 _ _ _ _⟩)
        | some br =>
          obtain ⟨b, q2⟩ := br
          have HTY2 := Lib.hid hty2
          have HT2 := Lib.hid (H2.out.good w5.drew p (j + 1) s b q2 (HP5.out.hold.rd.drewN 1) hs hty2)
          clear hty2
          go_region_held3 (fun x' : World => x'.cell? ⟨y0, 0, none⟩ = some (.int .i64 a.kind) ∧ x'.cell? ⟨y0, 1, none⟩ = some (.string a.name) ∧ x'.cell? ⟨y0, 2, none⟩ = some (.int .i64 a.num) ∧ x'.cell? ⟨y0, 3, none⟩ = some (.slice A a.args.length ac)) (first | with_reducible exact ⟨q0, q1, q2, q3⟩ | with_reducible exact ⟨kc0, kc1, kc2, kc3⟩ | with_reducible exact ⟨ka0, ka1, ka2, ka3⟩ | with_reducible exact ⟨kb0, kb1, kb2, kb3⟩ | go_keep) (first | (go_simp; go_at_call 62; (with_reducible refine HT2.out.mono ?_); rintro e w7 ⟨v7, j7, rfl, hrr7, hr7, hO7, hg7'⟩; have hg7 := grown_undrew hg7'; have hs7 := hg7.size; have hI7 := hO7.owned; obtain ⟨B, bc, rfl⟩ := hO7.open; have hP7 := HP5.out.read hr7 hg7 hrp hzp; have hx7 := HXA.out.grownO hg7 hyp; have kc0 : w7.cell? ⟨y0, 0, none⟩ = some (.int .i64 a.kind) := hx7.cell 0; have kc1 : w7.cell? ⟨y0, 1, none⟩ = some (.string a.name) := hx7.cell 1; have kc2 : w7.cell? ⟨y0, 2, none⟩ = some (.int .i64 a.num) := hx7.cell 2; have kc3 : w7.cell? ⟨y0, 3, none⟩ = some (.slice A a.args.length ac) := hx7.cell 3; have hb8 := (Below.refl w7.heap.size w7).alloc (Nat.le_refl _) (.cells #[.int .i64 a.kind, .string a.name, .int .i64 a.num, .slice A a.args.length ac, .int .i64 b.kind, .string b.name, .int .i64 b.num, .slice B b.args.length bc] 50); have hP8 := hP7.more hb8 hP7.hold.zero.lt hP7.hold.rd.lt hP7.box.lt hP7.hold.grown.size; have hx8 := hx7.below hb8 hx7.lt; have ka0 : (w7.alloc (.cells #[.int .i64 a.kind, .string a.name, .int .i64 a.num, .slice A a.args.length ac, .int .i64 b.kind, .string b.name, .int .i64 b.num, .slice B b.args.length bc] 50)).cell? ⟨y0, 0, none⟩ = some (.int .i64 a.kind) := hx8.cell 0; have ka1 : (w7.alloc (.cells #[.int .i64 a.kind, .string a.name, .int .i64 a.num, .slice A a.args.length ac, .int .i64 b.kind, .string b.name, .int .i64 b.num, .slice B b.args.length bc] 50)).cell? ⟨y0, 1, none⟩ = some (.string a.name) := hx8.cell 1; have ka2 : (w7.alloc (.cells #[.int .i64 a.kind, .string a.name, .int .i64 a.num, .slice A a.args.length ac, .int .i64 b.kind, .string b.name, .int .i64 b.num, .slice B b.args.length bc] 50)).cell? ⟨y0, 2, none⟩ = some (.int .i64 a.num) := hx8.cell 2; have ka3 : (w7.alloc (.cells #[.int .i64 a.kind, .string a.name, .int .i64 a.num, .slice A a.args.length ac, .int .i64 b.kind, .string b.name, .int .i64 b.num, .slice B b.args.length bc] 50)).cell? ⟨y0, 3, none⟩ = some (.slice A a.args.length ac) := hx8.cell 3; have kb0 : ((w7.alloc (.cells #[.int .i64 a.kind, .string a.name, .int .i64 a.num, .slice A a.args.length ac, .int .i64 b.kind, .string b.name, .int .i64 b.num, .slice B b.args.length bc] 50)).setCell ⟨z, 3, none⟩ (.slice (some ⟨w7.heap.size, 0, none⟩) 2 2)).cell? ⟨y0, 0, none⟩ = some (.int .i64 a.kind) := (World.cell?_setCell_far _ _ _ _ (fun e => hyne e.symm)).trans ka0; have kb1 : ((w7.alloc (.cells #[.int .i64 a.kind, .string a.name, .int .i64 a.num, .slice A a.args.length ac, .int .i64 b.kind, .string b.name, .int .i64 b.num, .slice B b.args.length bc] 50)).setCell ⟨z, 3, none⟩ (.slice (some ⟨w7.heap.size, 0, none⟩) 2 2)).cell? ⟨y0, 1, none⟩ = some (.string a.name) := (World.cell?_setCell_far _ _ _ _ (fun e => hyne e.symm)).trans ka1; have kb2 : ((w7.alloc (.cells #[.int .i64 a.kind, .string a.name, .int .i64 a.num, .slice A a.args.length ac, .int .i64 b.kind, .string b.name, .int .i64 b.num, .slice B b.args.length bc] 50)).setCell ⟨z, 3, none⟩ (.slice (some ⟨w7.heap.size, 0, none⟩) 2 2)).cell? ⟨y0, 2, none⟩ = some (.int .i64 a.num) := (World.cell?_setCell_far _ _ _ _ (fun e => hyne e.symm)).trans ka2; have kb3 : ((w7.alloc (.cells #[.int .i64 a.kind, .string a.name, .int .i64 a.num, .slice A a.args.length ac, .int .i64 b.kind, .string b.name, .int .i64 b.num, .slice B b.args.length bc] 50)).setCell ⟨z, 3, none⟩ (.slice (some ⟨w7.heap.size, 0, none⟩) 2 2)).cell? ⟨y0, 3, none⟩ = some (.slice A a.args.length ac) := (World.cell?_setCell_far _ _ _ _ (fun e => hyne e.symm)).trans ka3; have c8 : (w7.alloc (.cells #[.int .i64 a.kind, .string a.name, .int .i64 a.num, .slice A a.args.length ac, .int .i64 b.kind, .string b.name, .int .i64 b.num, .slice B b.args.length bc] 50)).cell? ⟨z, 3, none⟩ = some (.slice none 0 0) := hP8.box.cell 3; have g8 : (w7.alloc (.cells #[.int .i64 a.kind, .string a.name, .int .i64 a.num, .slice A a.args.length ac, .int .i64 b.kind, .string b.name, .int .i64 b.num, .slice B b.args.length bc] 50)).frozen? ⟨z, 3, none⟩ = false := hP8.box.free 3; have HP9 := Lib.hid (hP8.put 3 (.slice (some ⟨w7.heap.size, 0, none⟩) 2 2) hzp hzr hzw); have HO9 := Lib.hid (own_otwo_set (w1 := w7) (base := w.heap.size + 1) (z := z) (o := 3) (v := .slice (some ⟨w7.heap.size, 0, none⟩) 2 2) 13 0 ⟨#[]⟩ (Nat.zero_le _) (lo0 := w0.heap.size) (hi0 := y0) (lo1 := w5.heap.size) (hi1 := w7.heap.size) (by omega) (by omega) (by omega) (by omega) (by omega) (by omega) (by omega) (HIA.out.keep (w' := w7) (fun g hg hl => hg7.block g hl (fun e => by injection e with e; have := (osp _ hg).1; omega))) hI7); have hq7 := Lib.hid hrr7; clear hI7; clear hr7 hg7 hg7' hP7 hx7 hb8 hP8 hx8))
          all_goals
            by_cases h41 : ∃ hk : j7 < s.size, s[j7] = 41
            · obtain ⟨hk7, hc7⟩ := h41
              have HX2 := Lib.hid (show rdTwo (rdOt n) (restOf s i) = some (.mk 13 0 ⟨#[]⟩ [a, b], restOf s (j7 + 1)) by rw [HX.out, rdLast, HTY2.out]; simp only [hq7.out, eat_hit hk7 hc7])
              have HMU := Lib.hid (must_yes p j7 s 41 ((w7.alloc (.cells #[.int .i64 a.kind, .string a.name, .int .i64 a.num, .slice A a.args.length ac, .int .i64 b.kind, .string b.name, .int .i64 b.num, .slice B b.args.length bc] 50)).setCell ⟨z, 3, none⟩ (.slice (some ⟨w7.heap.size, 0, none⟩) 2 2)) HP9.out.hold.rd hs hk7 hc7)
              generalize ((w7.alloc (.cells #[.int .i64 a.kind, .string a.name, .int .i64 a.num, .slice A a.args.length ac, .int .i64 b.kind, .string b.name, .int .i64 b.num, .slice B b.args.length bc] 50)).setCell ⟨z, 3, none⟩ (.slice (some ⟨w7.heap.size, 0, none⟩) 2 2)) = w9 at *
              go_wp2_with fail
              refine HMU.out.mono ?_
              rintro e w10 ⟨rfl, hr10, hg10⟩
              have HP10 := Lib.hid (HP9.out.read hr10 hg10 hrp hzp)
              have HO10 := Lib.hid (HO9.out.keep hg10.size fun g hg hl => hg10.block g hl (fun e => by injection e with e; omega))
              have e0 : w10.cell? ⟨z, 0, none⟩ = some (.int .i64 13) := HP10.out.box.cell 0
              have e1 : w10.cell? ⟨z, 1, none⟩ = some (.string ⟨#[]⟩) := HP10.out.box.cell 1
              have e2 : w10.cell? ⟨z, 2, none⟩ = some (.int .i64 0) := HP10.out.box.cell 2
              have e3 : w10.cell? ⟨z, 3, none⟩ = some (.slice (some ⟨w7.heap.size, 0, none⟩) 2 2) := HP10.out.box.cell 3
              clear hr10 hg10
              have d0 : w10.cell? ⟨w.heap.size, 0, none⟩ = some (.int .i64 0) := HP10.out.hold.zero.cell 0
              have f0 : w10.frozen? ⟨w.heap.size, 0, none⟩ = false := HP10.out.hold.zero.free 0
              have d1 : w10.cell? ⟨w.heap.size, 1, none⟩ = some (.string ⟨#[]⟩) := HP10.out.hold.zero.cell 1
              have f1 : w10.frozen? ⟨w.heap.size, 1, none⟩ = false := HP10.out.hold.zero.free 1
              have d2 : w10.cell? ⟨w.heap.size, 2, none⟩ = some (.int .i64 0) := HP10.out.hold.zero.cell 2
              have f2 : w10.frozen? ⟨w.heap.size, 2, none⟩ = false := HP10.out.hold.zero.free 2
              have d3 : w10.cell? ⟨w.heap.size, 3, none⟩ = some (.slice none 0 0) := HP10.out.hold.zero.cell 3
              have f3 : w10.frozen? ⟨w.heap.size, 3, none⟩ = false := HP10.out.hold.zero.free 3
              go_wp2
              exact bodyPost_ret (v := .agg #[.int .i64 13, .string ⟨#[]⟩, .int .i64 0, .slice (some ⟨w7.heap.size, 0, none⟩) 2 2]) (by simp [results, Tryd.results107, go_sem, d0, d1, d2, d3]) rfl (Or.inr ⟨_, _, HX2.out, fin_good HP10.out.hold HO10.out hpl _ _ _ _⟩)
            · have HX2 := Lib.hid (show rdTwo (rdOt n) (restOf s i) = none by rw [HX.out, rdLast, HTY2.out]; simp only [hq7.out, eat_miss h41])
              have HMU := Lib.hid (must_no p j7 s false 41 ((w7.alloc (.cells #[.int .i64 a.kind, .string a.name, .int .i64 a.num, .slice A a.args.length ac, .int .i64 b.kind, .string b.name, .int .i64 b.num, .slice B b.args.length bc] 50)).setCell ⟨z, 3, none⟩ (.slice (some ⟨w7.heap.size, 0, none⟩) 2 2)) HP9.out.hold.rd hs (Or.inr (eat_miss h41)))
              generalize ((w7.alloc (.cells #[.int .i64 a.kind, .string a.name, .int .i64 a.num, .slice A a.args.length ac, .int .i64 b.kind, .string b.name, .int .i64 b.num, .slice B b.args.length bc] 50)).setCell ⟨z, 3, none⟩ (.slice (some ⟨w7.heap.size, 0, none⟩) 2 2)) = w9 at *
              go_wp2_with fail
              refine HMU.out.mono ?_
              rintro e w10 ⟨rfl, hr10, hg10⟩
              have HP10 := Lib.hid (HP9.out.read hr10 hg10 hrp hzp)
              have e0 : w10.cell? ⟨z, 0, none⟩ = some (.int .i64 13) := HP10.out.box.cell 0
              have e1 : w10.cell? ⟨z, 1, none⟩ = some (.string ⟨#[]⟩) := HP10.out.box.cell 1
              have e2 : w10.cell? ⟨z, 2, none⟩ = some (.int .i64 0) := HP10.out.box.cell 2
              have e3 : w10.cell? ⟨z, 3, none⟩ = some (.slice (some ⟨w7.heap.size, 0, none⟩) 2 2) := HP10.out.box.cell 3
              clear hr10 hg10
              have d0 : w10.cell? ⟨w.heap.size, 0, none⟩ = some (.int .i64 0) := HP10.out.hold.zero.cell 0
              have f0 : w10.frozen? ⟨w.heap.size, 0, none⟩ = false := HP10.out.hold.zero.free 0
              have d1 : w10.cell? ⟨w.heap.size, 1, none⟩ = some (.string ⟨#[]⟩) := HP10.out.hold.zero.cell 1
              have f1 : w10.frozen? ⟨w.heap.size, 1, none⟩ = false := HP10.out.hold.zero.free 1
              have d2 : w10.cell? ⟨w.heap.size, 2, none⟩ = some (.int .i64 0) := HP10.out.hold.zero.cell 2
              have f2 : w10.frozen? ⟨w.heap.size, 2, none⟩ = false := HP10.out.hold.zero.free 2
              have d3 : w10.cell? ⟨w.heap.size, 3, none⟩ = some (.slice none 0 0) := HP10.out.hold.zero.cell 3
              have f3 : w10.frozen? ⟨w.heap.size, 3, none⟩ = false := HP10.out.hold.zero.free 3
              go_wp2
              exact bodyPost_ret (v := .agg #[.int .i64 13, .string ⟨#[]⟩, .int .i64 0, .slice (some ⟨w7.heap.size, 0, none⟩) 2 2]) (by simp [results, Tryd.results107, go_sem, d0, d1, d2, d3]) rfl (Or.inl ⟨HX2.out, fin_bad HP10.out.hold hpl 13 0 ⟨#[]⟩ _ 2 2 _ _ _ _⟩)
      · have HX := Lib.hid (show rdTwo (rdOt n) (restOf s i) = none by rw [rdTwo, HTY.out]; simp only [H59.out, eat_miss h124])
        have HMU := Lib.hid (must_no p j s false 124 _ HP4.out.hold.rd hs (Or.inr (eat_miss h124)))
        clear h124
        go_wp2_with fail
        clear q0 u0
        generalize w3.setCell ⟨z, 0, none⟩ (.int .i64 13) = w4 at *
        refine HMU.out.mono ?_
        rintro e w5 ⟨rfl, hr5, hg5⟩
        have HP5 := Lib.hid (HP4.out.read hr5 hg5 hrp hzp)
        have b5 : w5.cell? ⟨p, 2, none⟩ = some (.bool true) := Whole1.cell hr5.1 2
        clear hr5 hg5
        have q0 : w5.cell? ⟨z, 0, none⟩ = some (.int .i64 13) := HP5.out.box.cell 0
        have q1 : w5.cell? ⟨z, 1, none⟩ = some (.string ⟨#[]⟩) := HP5.out.box.cell 1
        have q2 : w5.cell? ⟨z, 2, none⟩ = some (.int .i64 0) := HP5.out.box.cell 2
        have q3 : w5.cell? ⟨z, 3, none⟩ = some (.slice none 0 0) := HP5.out.box.cell 3
        have d0 : w5.cell? ⟨w.heap.size, 0, none⟩ = some (.int .i64 0) := HP5.out.hold.zero.cell 0
        have f0 : w5.frozen? ⟨w.heap.size, 0, none⟩ = false := HP5.out.hold.zero.free 0
        have d1 : w5.cell? ⟨w.heap.size, 1, none⟩ = some (.string ⟨#[]⟩) := HP5.out.hold.zero.cell 1
        have f1 : w5.frozen? ⟨w.heap.size, 1, none⟩ = false := HP5.out.hold.zero.free 1
        have d2 : w5.cell? ⟨w.heap.size, 2, none⟩ = some (.int .i64 0) := HP5.out.hold.zero.cell 2
        have f2 : w5.frozen? ⟨w.heap.size, 2, none⟩ = false := HP5.out.hold.zero.free 2
        have d3 : w5.cell? ⟨w.heap.size, 3, none⟩ = some (.slice none 0 0) := HP5.out.hold.zero.cell 3
        have f3 : w5.frozen? ⟨w.heap.size, 3, none⟩ = false := HP5.out.hold.zero.free 3
        go_wp2
        exact bodyPost_ret (v := .agg #[.int .i64 13, .string ⟨#[]⟩, .int .i64 0, .slice none 0 0]) (by simp [results, Tryd.results107, go_sem, d0, d1, d2, d3]) rfl (Or.inl ⟨HX.out, fin_bad HP5.out.hold hpl 13 0 ⟨#[]⟩ none 0 0 _ _ _ _⟩)

end Go.Proofs.YtlmbnefoobameaaDoor.OR
end

section
namespace Go.Proofs.YtlmbnefoobameaaDoor.OR
open Go Go.RowKit
attribute [local go_sem ↓] Go.wp_at_zero Go.wp_at_succ

set_option maxHeartbeats 1000000 in
theorem type_stops (d : Int) (w : World) (p i : Nat) (s : ByteArray) (b : Bool) (hr : RdAt w p s i b) (hd : b = true ∨ decide (10 < d) = true) : Calls Tryd.prog 62 #[.pointer (some ⟨p, 0, none⟩), .int .i64 d] w (Bads w p s) := by
  have hpl := hr.lt
  obtain ⟨hb0, r0, hs0⟩ := boxes1 w 50 #[.int .i64 0, .string ⟨#[]⟩, .int .i64 0, .slice none 0 0]
  have hr0 := hr.below hb0 hpl
  have H0 := Lib.hid (⟨hr0.setb true, (Below.heap_setCell _ _ _ _ (by show w.heap.size ≠ p; omega)).trans r0, only_set (grown_low (only_refl w (some p)) hb0 (Nat.le_refl _)) 2 _⟩ : Hold w ((w.alloc (.cells #[.int .i64 0, .string ⟨#[]⟩, .int .i64 0, .slice none 0 0] 50)).setCell ⟨p, 2, none⟩ (.bool true)) p w.heap.size s i true)
  have c2 : (w.alloc (.cells #[.int .i64 0, .string ⟨#[]⟩, .int .i64 0, .slice none 0 0] 50)).cell? ⟨p, 2, none⟩ = some (.bool b) := Whole1.cell hr0.1 2
  have f2 : (w.alloc (.cells #[.int .i64 0, .string ⟨#[]⟩, .int .i64 0, .slice none 0 0] 50)).frozen? ⟨p, 2, none⟩ = false := Whole1.free hr0.1 2
  have d0 : ((w.alloc (.cells #[.int .i64 0, .string ⟨#[]⟩, .int .i64 0, .slice none 0 0] 50)).setCell ⟨p, 2, none⟩ (.bool true)).cell? ⟨w.heap.size, 0, none⟩ = some (.int .i64 0) := H0.out.zero.cell 0
  have f0 : ((w.alloc (.cells #[.int .i64 0, .string ⟨#[]⟩, .int .i64 0, .slice none 0 0] 50)).setCell ⟨p, 2, none⟩ (.bool true)).frozen? ⟨w.heap.size, 0, none⟩ = false := H0.out.zero.free 0
  have d1 : ((w.alloc (.cells #[.int .i64 0, .string ⟨#[]⟩, .int .i64 0, .slice none 0 0] 50)).setCell ⟨p, 2, none⟩ (.bool true)).cell? ⟨w.heap.size, 1, none⟩ = some (.string ⟨#[]⟩) := H0.out.zero.cell 1
  have f1 : ((w.alloc (.cells #[.int .i64 0, .string ⟨#[]⟩, .int .i64 0, .slice none 0 0] 50)).setCell ⟨p, 2, none⟩ (.bool true)).frozen? ⟨w.heap.size, 1, none⟩ = false := H0.out.zero.free 1
  have d2 : ((w.alloc (.cells #[.int .i64 0, .string ⟨#[]⟩, .int .i64 0, .slice none 0 0] 50)).setCell ⟨p, 2, none⟩ (.bool true)).cell? ⟨w.heap.size, 2, none⟩ = some (.int .i64 0) := H0.out.zero.cell 2
  have f2 : ((w.alloc (.cells #[.int .i64 0, .string ⟨#[]⟩, .int .i64 0, .slice none 0 0] 50)).setCell ⟨p, 2, none⟩ (.bool true)).frozen? ⟨w.heap.size, 2, none⟩ = false := H0.out.zero.free 2
  have d3 : ((w.alloc (.cells #[.int .i64 0, .string ⟨#[]⟩, .int .i64 0, .slice none 0 0] 50)).setCell ⟨p, 2, none⟩ (.bool true)).cell? ⟨w.heap.size, 3, none⟩ = some (.slice none 0 0) := H0.out.zero.cell 3
  have f3 : ((w.alloc (.cells #[.int .i64 0, .string ⟨#[]⟩, .int .i64 0, .slice none 0 0] 50)).setCell ⟨p, 2, none⟩ (.bool true)).frozen? ⟨w.heap.size, 3, none⟩ = false := H0.out.zero.free 3
  have b3 : ((w.alloc (.cells #[.int .i64 0, .string ⟨#[]⟩, .int .i64 0, .slice none 0 0] 50)).setCell ⟨p, 2, none⟩ (.bool true)).cell? ⟨p, 2, none⟩ = some (.bool true) := Whole1.cell H0.out.rd.1 2
  clear hr hr0 r0 hb0 hs0
  have hd8 : b = true ∨ b = false ∧ decide (10 < d) = true := by
    rcases hd with h | h
    · exact Or.inl h
    · cases b
      · exact Or.inr ⟨rfl, h⟩
      · exact Or.inl rfl
  clear hd
  go_enter Tryd.func62, Tryd.ntmps62
  go_upto_region 1 with fail
  generalize w.alloc (.cells #[.int .i64 0, .string ⟨#[]⟩, .int .i64 0, .slice none 0 0] 50) = w0 at *
  rcases hd8 with rfl | ⟨rfl, hd8⟩
  all_goals
    go_wp2
    exact bodyPost_ret (v := .agg #[.int .i64 0, .string ⟨#[]⟩, .int .i64 0, .slice none 0 0]) (by simp [results, Tryd.results62, go_sem, d0, d1, d2, d3]) rfl (fin_bad H0.out hpl 0 0 ⟨#[]⟩ none 0 0 _ _ _ _)

set_option maxHeartbeats 16000000 in
set_option maxRecDepth 100000 in
theorem type_reads (n : Nat) (d : Int) (hd : decide (10 < d) = false) (hwr : IntKind.i64.wrap (d + 1) = d + 1) (H : TypeOne n (d + 1)) (w : World) (p i : Nat) (s : ByteArray) (hr : RdAt w p s i false) (hs : s.size ≤ 1048576) :
    Calls Tryd.prog 62 #[.pointer (some ⟨p, 0, none⟩), .int .i64 d] w (Does (rdOt (n + 1) (restOf s i)) w p s) := by
  have hpl := hr.lt
  have hrp : w.heap.size ≠ p := by omega
  have hil := hr.2
  obtain ⟨hb0, r0, hs0⟩ := boxes1 w 50 #[.int .i64 0, .string ⟨#[]⟩, .int .i64 0, .slice none 0 0]
  have hr0 := hr.below hb0 hpl
  have HH1 := Lib.hid (⟨hr0.setb false, (Below.heap_setCell _ _ _ _ (by show w.heap.size ≠ p; omega)).trans r0, only_set (grown_low (only_refl w (some p)) hb0 (Nat.le_refl _)) 2 _⟩ : Hold w ((w.alloc (.cells #[.int .i64 0, .string ⟨#[]⟩, .int .i64 0, .slice none 0 0] 50)).setCell ⟨p, 2, none⟩ (.bool false)) p w.heap.size s i false)
  have c2 : (w.alloc (.cells #[.int .i64 0, .string ⟨#[]⟩, .int .i64 0, .slice none 0 0] 50)).cell? ⟨p, 2, none⟩ = some (.bool false) := Whole1.cell hr0.1 2
  have f2 : (w.alloc (.cells #[.int .i64 0, .string ⟨#[]⟩, .int .i64 0, .slice none 0 0] 50)).frozen? ⟨p, 2, none⟩ = false := Whole1.free hr0.1 2
  have H2 := Lib.hid H
  clear hr hr0 r0 hb0 hs0 H
  go_enter Tryd.func62, Tryd.ntmps62
  go_upto_region 1 with fail
  generalize w.alloc (.cells #[.int .i64 0, .string ⟨#[]⟩, .int .i64 0, .slice none 0 0] 50) = w0 at *
  go_upto_region 2 with fail
  clear c2 f2
  generalize w0.setCell ⟨p, 2, none⟩ (.bool false) = w1 at *
  have c2 : w1.cell? ⟨p, 2, none⟩ = some (.bool false) := Whole1.cell HH1.out.rd.1 2
  cases he : eats [105, 100] (restOf s i) with
  | some r =>
    obtain ⟨hle, rfl⟩ := eats_rest (p := ⟨#[105, 100]⟩) hil he
    have HT := Lib.hid (takeE_yes p i s ⟨#[105, 100]⟩ _ w1 HH1.out.rd hs he)
    have HX := Lib.hid (show rdOt (n + 1) (restOf s i) = some (.mk 1 0 ⟨#[]⟩ [], restOf s (i + (⟨#[105, 100]⟩ : ByteArray).size)) by simp only [rdOt, he])
    clear he
    generalize i + (⟨#[105, 100]⟩ : ByteArray).size = j at *
    go_wp2_with fail
    refine HT.out.mono ?_
    rintro e w2 ⟨rfl, hr2, hg2⟩
    have HH2 := Lib.hid (HH1.out.read hr2 hg2 hrp)
    clear hr2 hg2
    have d0 : w2.cell? ⟨w.heap.size, 0, none⟩ = some (.int .i64 0) := HH2.out.zero.cell 0
    have f0 : w2.frozen? ⟨w.heap.size, 0, none⟩ = false := HH2.out.zero.free 0
    have d1 : w2.cell? ⟨w.heap.size, 1, none⟩ = some (.string ⟨#[]⟩) := HH2.out.zero.cell 1
    have f1 : w2.frozen? ⟨w.heap.size, 1, none⟩ = false := HH2.out.zero.free 1
    have d2 : w2.cell? ⟨w.heap.size, 2, none⟩ = some (.int .i64 0) := HH2.out.zero.cell 2
    have f2 : w2.frozen? ⟨w.heap.size, 2, none⟩ = false := HH2.out.zero.free 2
    have d3 : w2.cell? ⟨w.heap.size, 3, none⟩ = some (.slice none 0 0) := HH2.out.zero.cell 3
    have f3 : w2.frozen? ⟨w.heap.size, 3, none⟩ = false := HH2.out.zero.free 3
    go_wp2
    exact bodyPost_ret (v := .agg #[.int .i64 1, .string ⟨#[]⟩, .int .i64 0, .slice none 0 0]) (by simp [results, Tryd.results62, go_sem, d0, d1, d2, d3]) rfl (Or.inr ⟨_, _, HX.out, fin_good HH2.out (OwnOt.leaf _ _ 1 0 ⟨#[]⟩ (Nat.zero_le _)) hpl _ _ _ _⟩)
  | none =>
    have E1 := Lib.hid he
    have HT := Lib.hid (takeE_no p i s ⟨#[105, 100]⟩ w1 HH1.out.rd hs (by decide) he)
    clear he
    go_wp2_with fail
    refine HT.out.mono ?_
    rintro e wx1 ⟨rfl, hr2, hg2⟩
    have HH1 := Lib.hid (HH1.out.read hr2 hg2 hrp)
    clear hr2 hg2
    cases he : eats [46] (restOf s i) with
    | some r =>
      obtain ⟨hle, rfl⟩ := eats_rest (p := ⟨#[46]⟩) hil he
      have HT := Lib.hid (takeE_yes p i s ⟨#[46]⟩ _ wx1 HH1.out.rd hs he)
      have HX := Lib.hid (show rdOt (n + 1) (restOf s i) = rdNm 2 (restOf s (i + (⟨#[46]⟩ : ByteArray).size)) by simp only [rdOt, E1.out, he])
      clear he
      generalize i + (⟨#[46]⟩ : ByteArray).size = j at *
      go_wp2_with fail
      refine HT.out.mono ?_
      rintro e w2 ⟨rfl, hr2, hg2⟩
      have HH2 := Lib.hid (HH1.out.read hr2 hg2 hrp)
      clear hr2 hg2
      have HW := Lib.hid (word_any p j s false w2 HH2.out.rd hs)
      go_wp2_with fail
      refine HW.out.mono ?_
      rintro e w3 ⟨k1, hk1, ⟨rfl, hr3, hg3⟩, hd3, ht3⟩
      have HH3 := Lib.hid (HH2.out.read hr3 hg3 hrp)
      have HXK := Lib.hid (show rdOt (n + 1) (restOf s i) = some (.mk 2 0 (s.extract j k1) [], restOf s k1) by rw [HX.out, rdNm, ht3, hd3])
      have HN := Lib.hid (l7Named_any 2 (s.extract j k1) w3)
      have hz3 := HH3.out.zero.lt
      have hp3 := HH3.out.rd.lt
      have hg3' := HH3.out.grown.size
      have hwz : (s.extract j k1).size ≤ maxLen := by rw [ByteArray.size_extract]; unfold maxLen; omega
      clear hr3 hg3 hd3 ht3
      go_wp2_with fail
      refine HN.out.mono ?_
      rintro e w4 ⟨rfl, hb4⟩
      have HH4 := Lib.hid (HH3.out.more hb4 hz3 hp3 hg3')
      clear hb4
      have d0 : w4.cell? ⟨w.heap.size, 0, none⟩ = some (.int .i64 0) := HH4.out.zero.cell 0
      have f0 : w4.frozen? ⟨w.heap.size, 0, none⟩ = false := HH4.out.zero.free 0
      have d1 : w4.cell? ⟨w.heap.size, 1, none⟩ = some (.string ⟨#[]⟩) := HH4.out.zero.cell 1
      have f1 : w4.frozen? ⟨w.heap.size, 1, none⟩ = false := HH4.out.zero.free 1
      have d2 : w4.cell? ⟨w.heap.size, 2, none⟩ = some (.int .i64 0) := HH4.out.zero.cell 2
      have f2 : w4.frozen? ⟨w.heap.size, 2, none⟩ = false := HH4.out.zero.free 2
      have d3 : w4.cell? ⟨w.heap.size, 3, none⟩ = some (.slice none 0 0) := HH4.out.zero.cell 3
      have f3 : w4.frozen? ⟨w.heap.size, 3, none⟩ = false := HH4.out.zero.free 3
      go_wp2
      exact bodyPost_ret (v := .agg #[.int .i64 2, .string (s.extract j k1), .int .i64 0, .slice none 0 0]) (by simp [results, Tryd.results62, go_sem, d0, d1, d2, d3]) rfl (Or.inr ⟨_, _, HXK.out, fin_good HH4.out (OwnOt.leaf _ _ 2 0 _ hwz) hpl _ _ _ _⟩)
    | none =>
      have E2 := Lib.hid he
      have HT := Lib.hid (takeE_no p i s ⟨#[46]⟩ wx1 HH1.out.rd hs (by decide) he)
      clear he
      go_wp2_with fail
      refine HT.out.mono ?_
      rintro e wx2 ⟨rfl, hr2, hg2⟩
      have HH1 := Lib.hid (HH1.out.read hr2 hg2 hrp)
      clear hr2 hg2
      cases he : eats [63] (restOf s i) with
      | some r =>
        obtain ⟨hle, rfl⟩ := eats_rest (p := ⟨#[63]⟩) hil he
        have HT := Lib.hid (takeE_yes p i s ⟨#[63]⟩ _ wx2 HH1.out.rd hs he)
        have HX := Lib.hid (show rdOt (n + 1) (restOf s i) = rdNm 3 (restOf s (i + (⟨#[63]⟩ : ByteArray).size)) by simp only [rdOt, E1.out, E2.out, he])
        clear he
        generalize i + (⟨#[63]⟩ : ByteArray).size = j at *
        go_wp2_with fail
        refine HT.out.mono ?_
        rintro e w2 ⟨rfl, hr2, hg2⟩
        have HH2 := Lib.hid (HH1.out.read hr2 hg2 hrp)
        clear hr2 hg2
        have HW := Lib.hid (word_any p j s false w2 HH2.out.rd hs)
        go_wp2_with fail
        refine HW.out.mono ?_
        rintro e w3 ⟨k1, hk1, ⟨rfl, hr3, hg3⟩, hd3, ht3⟩
        have HH3 := Lib.hid (HH2.out.read hr3 hg3 hrp)
        have HXK := Lib.hid (show rdOt (n + 1) (restOf s i) = some (.mk 3 0 (s.extract j k1) [], restOf s k1) by rw [HX.out, rdNm, ht3, hd3])
        have HN := Lib.hid (l7Named_any 3 (s.extract j k1) w3)
        have hz3 := HH3.out.zero.lt
        have hp3 := HH3.out.rd.lt
        have hg3' := HH3.out.grown.size
        have hwz : (s.extract j k1).size ≤ maxLen := by rw [ByteArray.size_extract]; unfold maxLen; omega
        clear hr3 hg3 hd3 ht3
        go_wp2_with fail
        refine HN.out.mono ?_
        rintro e w4 ⟨rfl, hb4⟩
        have HH4 := Lib.hid (HH3.out.more hb4 hz3 hp3 hg3')
        clear hb4
        have d0 : w4.cell? ⟨w.heap.size, 0, none⟩ = some (.int .i64 0) := HH4.out.zero.cell 0
        have f0 : w4.frozen? ⟨w.heap.size, 0, none⟩ = false := HH4.out.zero.free 0
        have d1 : w4.cell? ⟨w.heap.size, 1, none⟩ = some (.string ⟨#[]⟩) := HH4.out.zero.cell 1
        have f1 : w4.frozen? ⟨w.heap.size, 1, none⟩ = false := HH4.out.zero.free 1
        have d2 : w4.cell? ⟨w.heap.size, 2, none⟩ = some (.int .i64 0) := HH4.out.zero.cell 2
        have f2 : w4.frozen? ⟨w.heap.size, 2, none⟩ = false := HH4.out.zero.free 2
        have d3 : w4.cell? ⟨w.heap.size, 3, none⟩ = some (.slice none 0 0) := HH4.out.zero.cell 3
        have f3 : w4.frozen? ⟨w.heap.size, 3, none⟩ = false := HH4.out.zero.free 3
        go_wp2
        exact bodyPost_ret (v := .agg #[.int .i64 3, .string (s.extract j k1), .int .i64 0, .slice none 0 0]) (by simp [results, Tryd.results62, go_sem, d0, d1, d2, d3]) rfl (Or.inr ⟨_, _, HXK.out, fin_good HH4.out (OwnOt.leaf _ _ 3 0 _ hwz) hpl _ _ _ _⟩)
      | none =>
        have E3 := Lib.hid he
        have HT := Lib.hid (takeE_no p i s ⟨#[63]⟩ wx2 HH1.out.rd hs (by decide) he)
        clear he
        go_wp2_with fail
        refine HT.out.mono ?_
        rintro e wx3 ⟨rfl, hr2, hg2⟩
        have HH1 := Lib.hid (HH1.out.read hr2 hg2 hrp)
        clear hr2 hg2
        cases he : eats [101, 97, 99, 104] (restOf s i) with
        | some r =>
          obtain ⟨hle, rfl⟩ := eats_rest (p := ⟨#[101, 97, 99, 104]⟩) hil he
          have HT := Lib.hid (takeE_yes p i s ⟨#[101, 97, 99, 104]⟩ _ wx3 HH1.out.rd hs he)
          have HX := Lib.hid (show rdOt (n + 1) (restOf s i) = some (.mk 4 0 ⟨#[]⟩ [], restOf s (i + (⟨#[101, 97, 99, 104]⟩ : ByteArray).size)) by simp only [rdOt, E1.out, E2.out, E3.out, he])
          clear he
          generalize i + (⟨#[101, 97, 99, 104]⟩ : ByteArray).size = j at *
          go_wp2_with fail
          refine HT.out.mono ?_
          rintro e w2 ⟨rfl, hr2, hg2⟩
          have HH2 := Lib.hid (HH1.out.read hr2 hg2 hrp)
          clear hr2 hg2
          have d0 : w2.cell? ⟨w.heap.size, 0, none⟩ = some (.int .i64 0) := HH2.out.zero.cell 0
          have f0 : w2.frozen? ⟨w.heap.size, 0, none⟩ = false := HH2.out.zero.free 0
          have d1 : w2.cell? ⟨w.heap.size, 1, none⟩ = some (.string ⟨#[]⟩) := HH2.out.zero.cell 1
          have f1 : w2.frozen? ⟨w.heap.size, 1, none⟩ = false := HH2.out.zero.free 1
          have d2 : w2.cell? ⟨w.heap.size, 2, none⟩ = some (.int .i64 0) := HH2.out.zero.cell 2
          have f2 : w2.frozen? ⟨w.heap.size, 2, none⟩ = false := HH2.out.zero.free 2
          have d3 : w2.cell? ⟨w.heap.size, 3, none⟩ = some (.slice none 0 0) := HH2.out.zero.cell 3
          have f3 : w2.frozen? ⟨w.heap.size, 3, none⟩ = false := HH2.out.zero.free 3
          go_wp2
          exact bodyPost_ret (v := .agg #[.int .i64 4, .string ⟨#[]⟩, .int .i64 0, .slice none 0 0]) (by simp [results, Tryd.results62, go_sem, d0, d1, d2, d3]) rfl (Or.inr ⟨_, _, HX.out, fin_good HH2.out (OwnOt.leaf _ _ 4 0 ⟨#[]⟩ (Nat.zero_le _)) hpl _ _ _ _⟩)
        | none =>
          have E4 := Lib.hid he
          have HT := Lib.hid (takeE_no p i s ⟨#[101, 97, 99, 104]⟩ wx3 HH1.out.rd hs (by decide) he)
          clear he
          go_wp2_with fail
          refine HT.out.mono ?_
          rintro e wx4 ⟨rfl, hr2, hg2⟩
          have HH1 := Lib.hid (HH1.out.read hr2 hg2 hrp)
          clear hr2 hg2
          cases he : eats [97, 108, 108] (restOf s i) with
          | some r =>
            obtain ⟨hle, rfl⟩ := eats_rest (p := ⟨#[97, 108, 108]⟩) hil he
            have HT := Lib.hid (takeE_yes p i s ⟨#[97, 108, 108]⟩ _ wx4 HH1.out.rd hs he)
            have HX := Lib.hid (show rdOt (n + 1) (restOf s i) = some (.mk 5 0 ⟨#[]⟩ [], restOf s (i + (⟨#[97, 108, 108]⟩ : ByteArray).size)) by simp only [rdOt, E1.out, E2.out, E3.out, E4.out, he])
            clear he
            generalize i + (⟨#[97, 108, 108]⟩ : ByteArray).size = j at *
            go_wp2_with fail
            refine HT.out.mono ?_
            rintro e w2 ⟨rfl, hr2, hg2⟩
            have HH2 := Lib.hid (HH1.out.read hr2 hg2 hrp)
            clear hr2 hg2
            have d0 : w2.cell? ⟨w.heap.size, 0, none⟩ = some (.int .i64 0) := HH2.out.zero.cell 0
            have f0 : w2.frozen? ⟨w.heap.size, 0, none⟩ = false := HH2.out.zero.free 0
            have d1 : w2.cell? ⟨w.heap.size, 1, none⟩ = some (.string ⟨#[]⟩) := HH2.out.zero.cell 1
            have f1 : w2.frozen? ⟨w.heap.size, 1, none⟩ = false := HH2.out.zero.free 1
            have d2 : w2.cell? ⟨w.heap.size, 2, none⟩ = some (.int .i64 0) := HH2.out.zero.cell 2
            have f2 : w2.frozen? ⟨w.heap.size, 2, none⟩ = false := HH2.out.zero.free 2
            have d3 : w2.cell? ⟨w.heap.size, 3, none⟩ = some (.slice none 0 0) := HH2.out.zero.cell 3
            have f3 : w2.frozen? ⟨w.heap.size, 3, none⟩ = false := HH2.out.zero.free 3
            go_wp2
            exact bodyPost_ret (v := .agg #[.int .i64 5, .string ⟨#[]⟩, .int .i64 0, .slice none 0 0]) (by simp [results, Tryd.results62, go_sem, d0, d1, d2, d3]) rfl (Or.inr ⟨_, _, HX.out, fin_good HH2.out (OwnOt.leaf _ _ 5 0 ⟨#[]⟩ (Nat.zero_le _)) hpl _ _ _ _⟩)
          | none =>
            have E5 := Lib.hid he
            have HT := Lib.hid (takeE_no p i s ⟨#[97, 108, 108]⟩ wx4 HH1.out.rd hs (by decide) he)
            clear he
            go_wp2_with fail
            refine HT.out.mono ?_
            rintro e wx5 ⟨rfl, hr2, hg2⟩
            have HH1 := Lib.hid (HH1.out.read hr2 hg2 hrp)
            clear hr2 hg2
            cases he : eats [97, 116, 32] (restOf s i) with
            | some r =>
              obtain ⟨hle, rfl⟩ := eats_rest (p := ⟨#[97, 116, 32]⟩) hil he
              have HT := Lib.hid (takeE_yes p i s ⟨#[97, 116, 32]⟩ _ wx5 HH1.out.rd hs he)
              have HX := Lib.hid (show rdOt (n + 1) (restOf s i) = rdNumO 6 (restOf s (i + (⟨#[97, 116, 32]⟩ : ByteArray).size)) by simp only [rdOt, E1.out, E2.out, E3.out, E4.out, E5.out, he])
              clear he
              generalize i + (⟨#[97, 116, 32]⟩ : ByteArray).size = j at *
              go_wp2_with fail
              refine HT.out.mono ?_
              rintro e w2 ⟨rfl, hr2, hg2⟩
              have HH2 := Lib.hid (HH1.out.read hr2 hg2 hrp)
              clear hr2 hg2
              have HN := Lib.hid (readNumO w2 p j s HH2.out.rd hs)
              go_wp2_with fail
              refine HN.out.mono ?_
              rintro e w3 (⟨hn, y, j3, rfl, hr3, hg3⟩ | ⟨v, r3, j3, hx, rfl, hrr, hr3, hg3⟩)
              · have HH3 := Lib.hid (HH2.out.read hr3 hg3 hrp)
                have HXK := Lib.hid (show rdOt (n + 1) (restOf s i) = none by rw [HX.out, rdNumO, hn])
                clear hr3 hg3 hn
                have d0 : w3.cell? ⟨w.heap.size, 0, none⟩ = some (.int .i64 0) := HH3.out.zero.cell 0
                have f0 : w3.frozen? ⟨w.heap.size, 0, none⟩ = false := HH3.out.zero.free 0
                have d1 : w3.cell? ⟨w.heap.size, 1, none⟩ = some (.string ⟨#[]⟩) := HH3.out.zero.cell 1
                have f1 : w3.frozen? ⟨w.heap.size, 1, none⟩ = false := HH3.out.zero.free 1
                have d2 : w3.cell? ⟨w.heap.size, 2, none⟩ = some (.int .i64 0) := HH3.out.zero.cell 2
                have f2 : w3.frozen? ⟨w.heap.size, 2, none⟩ = false := HH3.out.zero.free 2
                have d3 : w3.cell? ⟨w.heap.size, 3, none⟩ = some (.slice none 0 0) := HH3.out.zero.cell 3
                have f3 : w3.frozen? ⟨w.heap.size, 3, none⟩ = false := HH3.out.zero.free 3
                go_wp2
                exact bodyPost_ret (v := .agg #[.int .i64 6, .string ⟨#[]⟩, .int .i64 y, .slice none 0 0]) (by simp [results, Tryd.results62, go_sem, d0, d1, d2, d3]) rfl (Or.inl ⟨HXK.out, fin_bad HH3.out hpl 6 y ⟨#[]⟩ none 0 0 _ _ _ _⟩)
              · have HH3 := Lib.hid (HH2.out.read hr3 hg3 hrp)
                have HXK := Lib.hid (show rdOt (n + 1) (restOf s i) = some (.mk 6 v.num ⟨#[]⟩ [], restOf s j3) by rw [HX.out, rdNumO, hx, hrr])
                clear hr3 hg3 hx hrr
                have d0 : w3.cell? ⟨w.heap.size, 0, none⟩ = some (.int .i64 0) := HH3.out.zero.cell 0
                have f0 : w3.frozen? ⟨w.heap.size, 0, none⟩ = false := HH3.out.zero.free 0
                have d1 : w3.cell? ⟨w.heap.size, 1, none⟩ = some (.string ⟨#[]⟩) := HH3.out.zero.cell 1
                have f1 : w3.frozen? ⟨w.heap.size, 1, none⟩ = false := HH3.out.zero.free 1
                have d2 : w3.cell? ⟨w.heap.size, 2, none⟩ = some (.int .i64 0) := HH3.out.zero.cell 2
                have f2 : w3.frozen? ⟨w.heap.size, 2, none⟩ = false := HH3.out.zero.free 2
                have d3 : w3.cell? ⟨w.heap.size, 3, none⟩ = some (.slice none 0 0) := HH3.out.zero.cell 3
                have f3 : w3.frozen? ⟨w.heap.size, 3, none⟩ = false := HH3.out.zero.free 3
                go_wp2
                exact bodyPost_ret (v := .agg #[.int .i64 6, .string ⟨#[]⟩, .int .i64 v.num, .slice none 0 0]) (by simp [results, Tryd.results62, go_sem, d0, d1, d2, d3]) rfl (Or.inr ⟨_, _, HXK.out, fin_good HH3.out (OwnOt.leaf _ _ 6 v.num ⟨#[]⟩ (Nat.zero_le _)) hpl _ _ _ _⟩)
            | none =>
              have E6 := Lib.hid he
              have HT := Lib.hid (takeE_no p i s ⟨#[97, 116, 32]⟩ wx5 HH1.out.rd hs (by decide) he)
              clear he
              go_wp2_with fail
              refine HT.out.mono ?_
              rintro e wx6 ⟨rfl, hr2, hg2⟩
              have HH1 := Lib.hid (HH1.out.read hr2 hg2 hrp)
              clear hr2 hg2
              cases he : eats [97, 100, 100, 32] (restOf s i) with
              | some r =>
                obtain ⟨hle, rfl⟩ := eats_rest (p := ⟨#[97, 100, 100, 32]⟩) hil he
                have HT := Lib.hid (takeE_yes p i s ⟨#[97, 100, 100, 32]⟩ _ wx6 HH1.out.rd hs he)
                have HX := Lib.hid (show rdOt (n + 1) (restOf s i) = rdNumO 7 (restOf s (i + (⟨#[97, 100, 100, 32]⟩ : ByteArray).size)) by simp only [rdOt, E1.out, E2.out, E3.out, E4.out, E5.out, E6.out, he])
                clear he
                generalize i + (⟨#[97, 100, 100, 32]⟩ : ByteArray).size = j at *
                go_wp2_with fail
                refine HT.out.mono ?_
                rintro e w2 ⟨rfl, hr2, hg2⟩
                have HH2 := Lib.hid (HH1.out.read hr2 hg2 hrp)
                clear hr2 hg2
                have HN := Lib.hid (readNumO w2 p j s HH2.out.rd hs)
                go_wp2_with fail
                refine HN.out.mono ?_
                rintro e w3 (⟨hn, y, j3, rfl, hr3, hg3⟩ | ⟨v, r3, j3, hx, rfl, hrr, hr3, hg3⟩)
                · have HH3 := Lib.hid (HH2.out.read hr3 hg3 hrp)
                  have HXK := Lib.hid (show rdOt (n + 1) (restOf s i) = none by rw [HX.out, rdNumO, hn])
                  clear hr3 hg3 hn
                  have d0 : w3.cell? ⟨w.heap.size, 0, none⟩ = some (.int .i64 0) := HH3.out.zero.cell 0
                  have f0 : w3.frozen? ⟨w.heap.size, 0, none⟩ = false := HH3.out.zero.free 0
                  have d1 : w3.cell? ⟨w.heap.size, 1, none⟩ = some (.string ⟨#[]⟩) := HH3.out.zero.cell 1
                  have f1 : w3.frozen? ⟨w.heap.size, 1, none⟩ = false := HH3.out.zero.free 1
                  have d2 : w3.cell? ⟨w.heap.size, 2, none⟩ = some (.int .i64 0) := HH3.out.zero.cell 2
                  have f2 : w3.frozen? ⟨w.heap.size, 2, none⟩ = false := HH3.out.zero.free 2
                  have d3 : w3.cell? ⟨w.heap.size, 3, none⟩ = some (.slice none 0 0) := HH3.out.zero.cell 3
                  have f3 : w3.frozen? ⟨w.heap.size, 3, none⟩ = false := HH3.out.zero.free 3
                  go_wp2
                  exact bodyPost_ret (v := .agg #[.int .i64 7, .string ⟨#[]⟩, .int .i64 y, .slice none 0 0]) (by simp [results, Tryd.results62, go_sem, d0, d1, d2, d3]) rfl (Or.inl ⟨HXK.out, fin_bad HH3.out hpl 7 y ⟨#[]⟩ none 0 0 _ _ _ _⟩)
                · have HH3 := Lib.hid (HH2.out.read hr3 hg3 hrp)
                  have HXK := Lib.hid (show rdOt (n + 1) (restOf s i) = some (.mk 7 v.num ⟨#[]⟩ [], restOf s j3) by rw [HX.out, rdNumO, hx, hrr])
                  clear hr3 hg3 hx hrr
                  have d0 : w3.cell? ⟨w.heap.size, 0, none⟩ = some (.int .i64 0) := HH3.out.zero.cell 0
                  have f0 : w3.frozen? ⟨w.heap.size, 0, none⟩ = false := HH3.out.zero.free 0
                  have d1 : w3.cell? ⟨w.heap.size, 1, none⟩ = some (.string ⟨#[]⟩) := HH3.out.zero.cell 1
                  have f1 : w3.frozen? ⟨w.heap.size, 1, none⟩ = false := HH3.out.zero.free 1
                  have d2 : w3.cell? ⟨w.heap.size, 2, none⟩ = some (.int .i64 0) := HH3.out.zero.cell 2
                  have f2 : w3.frozen? ⟨w.heap.size, 2, none⟩ = false := HH3.out.zero.free 2
                  have d3 : w3.cell? ⟨w.heap.size, 3, none⟩ = some (.slice none 0 0) := HH3.out.zero.cell 3
                  have f3 : w3.frozen? ⟨w.heap.size, 3, none⟩ = false := HH3.out.zero.free 3
                  go_wp2
                  exact bodyPost_ret (v := .agg #[.int .i64 7, .string ⟨#[]⟩, .int .i64 v.num, .slice none 0 0]) (by simp [results, Tryd.results62, go_sem, d0, d1, d2, d3]) rfl (Or.inr ⟨_, _, HXK.out, fin_good HH3.out (OwnOt.leaf _ _ 7 v.num ⟨#[]⟩ (Nat.zero_le _)) hpl _ _ _ _⟩)
              | none =>
                have E7 := Lib.hid he
                have HT := Lib.hid (takeE_no p i s ⟨#[97, 100, 100, 32]⟩ wx6 HH1.out.rd hs (by decide) he)
                clear he
                go_wp2_with fail
                refine HT.out.mono ?_
                rintro e wx7 ⟨rfl, hr2, hg2⟩
                have HH1 := Lib.hid (HH1.out.read hr2 hg2 hrp)
                clear hr2 hg2
                cases he : eats [110, 111, 116] (restOf s i) with
                | some r =>
                  obtain ⟨hle, rfl⟩ := eats_rest (p := ⟨#[110, 111, 116]⟩) hil he
                  have HT := Lib.hid (takeE_yes p i s ⟨#[110, 111, 116]⟩ _ wx7 HH1.out.rd hs he)
                  have HX := Lib.hid (show rdOt (n + 1) (restOf s i) = some (.mk 8 0 ⟨#[]⟩ [], restOf s (i + (⟨#[110, 111, 116]⟩ : ByteArray).size)) by simp only [rdOt, E1.out, E2.out, E3.out, E4.out, E5.out, E6.out, E7.out, he])
                  clear he
                  generalize i + (⟨#[110, 111, 116]⟩ : ByteArray).size = j at *
                  go_wp2_with fail
                  refine HT.out.mono ?_
                  rintro e w2 ⟨rfl, hr2, hg2⟩
                  have HH2 := Lib.hid (HH1.out.read hr2 hg2 hrp)
                  clear hr2 hg2
                  have d0 : w2.cell? ⟨w.heap.size, 0, none⟩ = some (.int .i64 0) := HH2.out.zero.cell 0
                  have f0 : w2.frozen? ⟨w.heap.size, 0, none⟩ = false := HH2.out.zero.free 0
                  have d1 : w2.cell? ⟨w.heap.size, 1, none⟩ = some (.string ⟨#[]⟩) := HH2.out.zero.cell 1
                  have f1 : w2.frozen? ⟨w.heap.size, 1, none⟩ = false := HH2.out.zero.free 1
                  have d2 : w2.cell? ⟨w.heap.size, 2, none⟩ = some (.int .i64 0) := HH2.out.zero.cell 2
                  have f2 : w2.frozen? ⟨w.heap.size, 2, none⟩ = false := HH2.out.zero.free 2
                  have d3 : w2.cell? ⟨w.heap.size, 3, none⟩ = some (.slice none 0 0) := HH2.out.zero.cell 3
                  have f3 : w2.frozen? ⟨w.heap.size, 3, none⟩ = false := HH2.out.zero.free 3
                  go_wp2
                  exact bodyPost_ret (v := .agg #[.int .i64 8, .string ⟨#[]⟩, .int .i64 0, .slice none 0 0]) (by simp [results, Tryd.results62, go_sem, d0, d1, d2, d3]) rfl (Or.inr ⟨_, _, HX.out, fin_good HH2.out (OwnOt.leaf _ _ 8 0 ⟨#[]⟩ (Nat.zero_le _)) hpl _ _ _ _⟩)
                | none =>
                  have E8 := Lib.hid he
                  have HT := Lib.hid (takeE_no p i s ⟨#[110, 111, 116]⟩ wx7 HH1.out.rd hs (by decide) he)
                  clear he
                  go_wp2_with fail
                  refine HT.out.mono ?_
                  rintro e wx8 ⟨rfl, hr2, hg2⟩
                  have HH1 := Lib.hid (HH1.out.read hr2 hg2 hrp)
                  clear hr2 hg2
                  cases he : eats [114, 101, 118] (restOf s i) with
                  | some r =>
                    obtain ⟨hle, rfl⟩ := eats_rest (p := ⟨#[114, 101, 118]⟩) hil he
                    have HT := Lib.hid (takeE_yes p i s ⟨#[114, 101, 118]⟩ _ wx8 HH1.out.rd hs he)
                    have HX := Lib.hid (show rdOt (n + 1) (restOf s i) = some (.mk 9 0 ⟨#[]⟩ [], restOf s (i + (⟨#[114, 101, 118]⟩ : ByteArray).size)) by simp only [rdOt, E1.out, E2.out, E3.out, E4.out, E5.out, E6.out, E7.out, E8.out, he])
                    clear he
                    generalize i + (⟨#[114, 101, 118]⟩ : ByteArray).size = j at *
                    go_wp2_with fail
                    refine HT.out.mono ?_
                    rintro e w2 ⟨rfl, hr2, hg2⟩
                    have HH2 := Lib.hid (HH1.out.read hr2 hg2 hrp)
                    clear hr2 hg2
                    have d0 : w2.cell? ⟨w.heap.size, 0, none⟩ = some (.int .i64 0) := HH2.out.zero.cell 0
                    have f0 : w2.frozen? ⟨w.heap.size, 0, none⟩ = false := HH2.out.zero.free 0
                    have d1 : w2.cell? ⟨w.heap.size, 1, none⟩ = some (.string ⟨#[]⟩) := HH2.out.zero.cell 1
                    have f1 : w2.frozen? ⟨w.heap.size, 1, none⟩ = false := HH2.out.zero.free 1
                    have d2 : w2.cell? ⟨w.heap.size, 2, none⟩ = some (.int .i64 0) := HH2.out.zero.cell 2
                    have f2 : w2.frozen? ⟨w.heap.size, 2, none⟩ = false := HH2.out.zero.free 2
                    have d3 : w2.cell? ⟨w.heap.size, 3, none⟩ = some (.slice none 0 0) := HH2.out.zero.cell 3
                    have f3 : w2.frozen? ⟨w.heap.size, 3, none⟩ = false := HH2.out.zero.free 3
                    go_wp2
                    exact bodyPost_ret (v := .agg #[.int .i64 9, .string ⟨#[]⟩, .int .i64 0, .slice none 0 0]) (by simp [results, Tryd.results62, go_sem, d0, d1, d2, d3]) rfl (Or.inr ⟨_, _, HX.out, fin_good HH2.out (OwnOt.leaf _ _ 9 0 ⟨#[]⟩ (Nat.zero_le _)) hpl _ _ _ _⟩)
                  | none =>
                    have E9 := Lib.hid he
                    have HT := Lib.hid (takeE_no p i s ⟨#[114, 101, 118]⟩ wx8 HH1.out.rd hs (by decide) he)
                    clear he
                    go_wp2_with fail
                    refine HT.out.mono ?_
                    rintro e wx9 ⟨rfl, hr2, hg2⟩
                    have HH1 := Lib.hid (HH1.out.read hr2 hg2 hrp)
                    clear hr2 hg2
                    cases he : eats [119, 114, 97, 112, 32] (restOf s i) with
                    | some r =>
                      obtain ⟨hle, rfl⟩ := eats_rest (p := ⟨#[119, 114, 97, 112, 32]⟩) hil he
                      have HT := Lib.hid (takeE_yes p i s ⟨#[119, 114, 97, 112, 32]⟩ _ wx9 HH1.out.rd hs he)
                      have HX := Lib.hid (show rdOt (n + 1) (restOf s i) = rdNm 10 (restOf s (i + (⟨#[119, 114, 97, 112, 32]⟩ : ByteArray).size)) by simp only [rdOt, E1.out, E2.out, E3.out, E4.out, E5.out, E6.out, E7.out, E8.out, E9.out, he])
                      clear he
                      generalize i + (⟨#[119, 114, 97, 112, 32]⟩ : ByteArray).size = j at *
                      go_wp2_with fail
                      refine HT.out.mono ?_
                      rintro e w2 ⟨rfl, hr2, hg2⟩
                      have HH2 := Lib.hid (HH1.out.read hr2 hg2 hrp)
                      clear hr2 hg2
                      have HW := Lib.hid (word_any p j s false w2 HH2.out.rd hs)
                      go_wp2_with fail
                      refine HW.out.mono ?_
                      rintro e w3 ⟨k1, hk1, ⟨rfl, hr3, hg3⟩, hd3, ht3⟩
                      have HH3 := Lib.hid (HH2.out.read hr3 hg3 hrp)
                      have HXK := Lib.hid (show rdOt (n + 1) (restOf s i) = some (.mk 10 0 (s.extract j k1) [], restOf s k1) by rw [HX.out, rdNm, ht3, hd3])
                      have HN := Lib.hid (l7Named_any 10 (s.extract j k1) w3)
                      have hz3 := HH3.out.zero.lt
                      have hp3 := HH3.out.rd.lt
                      have hg3' := HH3.out.grown.size
                      have hwz : (s.extract j k1).size ≤ maxLen := by rw [ByteArray.size_extract]; unfold maxLen; omega
                      clear hr3 hg3 hd3 ht3
                      go_wp2_with fail
                      refine HN.out.mono ?_
                      rintro e w4 ⟨rfl, hb4⟩
                      have HH4 := Lib.hid (HH3.out.more hb4 hz3 hp3 hg3')
                      clear hb4
                      have d0 : w4.cell? ⟨w.heap.size, 0, none⟩ = some (.int .i64 0) := HH4.out.zero.cell 0
                      have f0 : w4.frozen? ⟨w.heap.size, 0, none⟩ = false := HH4.out.zero.free 0
                      have d1 : w4.cell? ⟨w.heap.size, 1, none⟩ = some (.string ⟨#[]⟩) := HH4.out.zero.cell 1
                      have f1 : w4.frozen? ⟨w.heap.size, 1, none⟩ = false := HH4.out.zero.free 1
                      have d2 : w4.cell? ⟨w.heap.size, 2, none⟩ = some (.int .i64 0) := HH4.out.zero.cell 2
                      have f2 : w4.frozen? ⟨w.heap.size, 2, none⟩ = false := HH4.out.zero.free 2
                      have d3 : w4.cell? ⟨w.heap.size, 3, none⟩ = some (.slice none 0 0) := HH4.out.zero.cell 3
                      have f3 : w4.frozen? ⟨w.heap.size, 3, none⟩ = false := HH4.out.zero.free 3
                      go_wp2
                      exact bodyPost_ret (v := .agg #[.int .i64 10, .string (s.extract j k1), .int .i64 0, .slice none 0 0]) (by simp [results, Tryd.results62, go_sem, d0, d1, d2, d3]) rfl (Or.inr ⟨_, _, HXK.out, fin_good HH4.out (OwnOt.leaf _ _ 10 0 _ hwz) hpl _ _ _ _⟩)
                    | none =>
                      have E10 := Lib.hid he
                      have HT := Lib.hid (takeE_no p i s ⟨#[119, 114, 97, 112, 32]⟩ wx9 HH1.out.rd hs (by decide) he)
                      clear he
                      go_wp2_with fail
                      refine HT.out.mono ?_
                      rintro e wx10 ⟨rfl, hr2, hg2⟩
                      have HH1 := Lib.hid (HH1.out.read hr2 hg2 hrp)
                      clear hr2 hg2
                      cases he : eats [109, 97, 112, 32] (restOf s i) with
                      | some r =>
                        obtain ⟨hle, rfl⟩ := eats_rest (p := ⟨#[109, 97, 112, 32]⟩) hil he
                        have HT := Lib.hid (takeE_yes p i s ⟨#[109, 97, 112, 32]⟩ _ wx10 HH1.out.rd hs he)
                        have HX := Lib.hid (show rdOt (n + 1) (restOf s i) = rdMapO (rdOt n) (restOf s (i + (⟨#[109, 97, 112, 32]⟩ : ByteArray).size)) by simp only [rdOt, E1.out, E2.out, E3.out, E4.out, E5.out, E6.out, E7.out, E8.out, E9.out, E10.out, he])
                        clear he
                        generalize i + (⟨#[109, 97, 112, 32]⟩ : ByteArray).size = j at *
                        go_wp2_with fail
                        refine HT.out.mono ?_
                        rintro e w2 ⟨rfl, hr2, hg2⟩
                        have HH2 := Lib.hid (HH1.out.read hr2 hg2 hrp)
                        clear hr2 hg2
                        cases hty : rdOt n (restOf s j) with
                        | none =>
                          have HXK := Lib.hid (show rdOt (n + 1) (restOf s i) = none by rw [HX.out, rdMapO, hty])
                          have HT2 := Lib.hid (H2.out.bad w2 p j s false HH2.out.rd hs (Or.inr hty))
                          clear hty
                          go_wp2_with fail
                          refine HT2.out.mono ?_
                          rintro e w3 ⟨x, nm, y, A, m, ac, j3, rfl, hr3, hg3⟩
                          have HH3 := HH2.out.read hr3 hg3 hrp
                          have hb4 := (Below.refl w3.heap.size w3).alloc (Nat.le_refl _) (.cells #[.int .i64 x, .string nm, .int .i64 y, .slice A m ac] 50)
                          have HH4 := Lib.hid (HH3.more hb4 HH3.zero.lt HH3.rd.lt HH3.grown.size)
                          clear hr3 hg3 HH3 hb4
                          have d0 : (w3.alloc (.cells #[.int .i64 x, .string nm, .int .i64 y, .slice A m ac] 50)).cell? ⟨w.heap.size, 0, none⟩ = some (.int .i64 0) := HH4.out.zero.cell 0
                          have f0 : (w3.alloc (.cells #[.int .i64 x, .string nm, .int .i64 y, .slice A m ac] 50)).frozen? ⟨w.heap.size, 0, none⟩ = false := HH4.out.zero.free 0
                          have d1 : (w3.alloc (.cells #[.int .i64 x, .string nm, .int .i64 y, .slice A m ac] 50)).cell? ⟨w.heap.size, 1, none⟩ = some (.string ⟨#[]⟩) := HH4.out.zero.cell 1
                          have f1 : (w3.alloc (.cells #[.int .i64 x, .string nm, .int .i64 y, .slice A m ac] 50)).frozen? ⟨w.heap.size, 1, none⟩ = false := HH4.out.zero.free 1
                          have d2 : (w3.alloc (.cells #[.int .i64 x, .string nm, .int .i64 y, .slice A m ac] 50)).cell? ⟨w.heap.size, 2, none⟩ = some (.int .i64 0) := HH4.out.zero.cell 2
                          have f2 : (w3.alloc (.cells #[.int .i64 x, .string nm, .int .i64 y, .slice A m ac] 50)).frozen? ⟨w.heap.size, 2, none⟩ = false := HH4.out.zero.free 2
                          have d3 : (w3.alloc (.cells #[.int .i64 x, .string nm, .int .i64 y, .slice A m ac] 50)).cell? ⟨w.heap.size, 3, none⟩ = some (.slice none 0 0) := HH4.out.zero.cell 3
                          have f3 : (w3.alloc (.cells #[.int .i64 x, .string nm, .int .i64 y, .slice A m ac] 50)).frozen? ⟨w.heap.size, 3, none⟩ = false := HH4.out.zero.free 3
                          go_wp2
                          exact bodyPost_ret (v := .agg #[.int .i64 11, .string ⟨#[]⟩, .int .i64 0, .slice (some ⟨w3.heap.size, 0, none⟩) 1 1]) (by simp [results, Tryd.results62, go_sem, d0, d1, d2, d3]) rfl (Or.inl ⟨HXK.out, fin_bad HH4.out hpl 11 0 ⟨#[]⟩ _ 1 1 _ _ _ _⟩)
                        | some tr =>
                          obtain ⟨t, q⟩ := tr
                          have HT2 := Lib.hid (H2.out.good w2 p j s t q HH2.out.rd hs hty)
                          have HTY := Lib.hid hty
                          have hs2 := HH2.out.grown.size
                          have hz2 := HH2.out.zero.lt
                          clear hty
                          go_wp2_with fail
                          refine HT2.out.mono ?_
                          rintro e w3 ⟨v, j3, rfl, hrr, hr3, hO3, hg3⟩
                          have hI3 := hO3.owned
                          obtain ⟨A, ac, rfl⟩ := hO3.open
                          have HXK := Lib.hid (show rdOt (n + 1) (restOf s i) = some (.mk 11 0 ⟨#[]⟩ [t], restOf s j3) by rw [HX.out, rdMapO, HTY.out, hrr])
                          have HH3 := HH2.out.read hr3 hg3 hrp
                          have hs3 := hg3.size
                          have HO4 := Lib.hid (own_oone (base := w.heap.size + 1) 11 0 ⟨#[]⟩ (Nat.zero_le _) (by omega) (by omega) (Nat.le_refl _) hI3)
                          have hb4 := (Below.refl w3.heap.size w3).alloc (Nat.le_refl _) (.cells #[.int .i64 t.kind, .string t.name, .int .i64 t.num, .slice A t.args.length ac] 50)
                          have HH4 := Lib.hid (HH3.more hb4 HH3.zero.lt HH3.rd.lt HH3.grown.size)
                          clear hr3 hg3 HH3 hb4 hO3 hI3 hrr
                          have d0 : (w3.alloc (.cells #[.int .i64 t.kind, .string t.name, .int .i64 t.num, .slice A t.args.length ac] 50)).cell? ⟨w.heap.size, 0, none⟩ = some (.int .i64 0) := HH4.out.zero.cell 0
                          have f0 : (w3.alloc (.cells #[.int .i64 t.kind, .string t.name, .int .i64 t.num, .slice A t.args.length ac] 50)).frozen? ⟨w.heap.size, 0, none⟩ = false := HH4.out.zero.free 0
                          have d1 : (w3.alloc (.cells #[.int .i64 t.kind, .string t.name, .int .i64 t.num, .slice A t.args.length ac] 50)).cell? ⟨w.heap.size, 1, none⟩ = some (.string ⟨#[]⟩) := HH4.out.zero.cell 1
                          have f1 : (w3.alloc (.cells #[.int .i64 t.kind, .string t.name, .int .i64 t.num, .slice A t.args.length ac] 50)).frozen? ⟨w.heap.size, 1, none⟩ = false := HH4.out.zero.free 1
                          have d2 : (w3.alloc (.cells #[.int .i64 t.kind, .string t.name, .int .i64 t.num, .slice A t.args.length ac] 50)).cell? ⟨w.heap.size, 2, none⟩ = some (.int .i64 0) := HH4.out.zero.cell 2
                          have f2 : (w3.alloc (.cells #[.int .i64 t.kind, .string t.name, .int .i64 t.num, .slice A t.args.length ac] 50)).frozen? ⟨w.heap.size, 2, none⟩ = false := HH4.out.zero.free 2
                          have d3 : (w3.alloc (.cells #[.int .i64 t.kind, .string t.name, .int .i64 t.num, .slice A t.args.length ac] 50)).cell? ⟨w.heap.size, 3, none⟩ = some (.slice none 0 0) := HH4.out.zero.cell 3
                          have f3 : (w3.alloc (.cells #[.int .i64 t.kind, .string t.name, .int .i64 t.num, .slice A t.args.length ac] 50)).frozen? ⟨w.heap.size, 3, none⟩ = false := HH4.out.zero.free 3
                          go_wp2
                          exact bodyPost_ret (v := .agg #[.int .i64 11, .string ⟨#[]⟩, .int .i64 0, .slice (some ⟨w3.heap.size, 0, none⟩) 1 1]) (by simp [results, Tryd.results62, go_sem, d0, d1, d2, d3]) rfl (Or.inr ⟨_, _, HXK.out, fin_good HH4.out HO4.out hpl _ _ _ _⟩)
                      | none =>
                        have E11 := Lib.hid he
                        have HT := Lib.hid (takeE_no p i s ⟨#[109, 97, 112, 32]⟩ wx10 HH1.out.rd hs (by decide) he)
                        clear he
                        go_wp2_with fail
                        refine HT.out.mono ?_
                        rintro e wx11 ⟨rfl, hr2, hg2⟩
                        have HH1 := Lib.hid (HH1.out.read hr2 hg2 hrp)
                        clear hr2 hg2
                        by_cases h40 : ∃ hk : i < s.size, s[i] = 40
                        · obtain ⟨hk, hc⟩ := h40
                          have HX := Lib.hid (show rdOt (n + 1) (restOf s i) = rdTwo (rdOt n) (restOf s (i + 1)) by simp only [rdOt, E1.out, E2.out, E3.out, E4.out, E5.out, E6.out, E7.out, E8.out, E9.out, E10.out, E11.out, eat_hit hk hc])
                          have HMU := Lib.hid (must_yes p i s 40 wx11 HH1.out.rd hs hk hc)
                          clear hc
                          go_wp2_with fail
                          refine HMU.out.mono ?_
                          rintro e w2 ⟨rfl, hr2, hg2⟩
                          have HH2 := Lib.hid (HH1.out.read hr2 hg2 hrp)
                          have b2 : w2.cell? ⟨p, 2, none⟩ = some (.bool false) := Whole1.cell hr2.1 2
                          have HTW := Lib.hid (readTwo n (d + 1) H2.out w2 p (i + 1) s HH2.out.rd hs)
                          have hs2 := HH2.out.grown.size
                          have hz2 := HH2.out.zero.lt
                          clear hr2 hg2
                          go_wp2_with fail
                          refine HTW.out.mono ?_
                          rintro e w3 (⟨hn, x, nm, y, A, m, ac, j3, rfl, hr3, hg3⟩ | ⟨t, r, hx, v, j3, rfl, hrr, hr3, hO3, hg3⟩)
                          · have HH3 := Lib.hid (HH2.out.read hr3 hg3 hrp)
                            have HXK := Lib.hid (HX.out.trans hn)
                            clear hr3 hg3 hn
                            have d0 : w3.cell? ⟨w.heap.size, 0, none⟩ = some (.int .i64 0) := HH3.out.zero.cell 0
                            have f0 : w3.frozen? ⟨w.heap.size, 0, none⟩ = false := HH3.out.zero.free 0
                            have d1 : w3.cell? ⟨w.heap.size, 1, none⟩ = some (.string ⟨#[]⟩) := HH3.out.zero.cell 1
                            have f1 : w3.frozen? ⟨w.heap.size, 1, none⟩ = false := HH3.out.zero.free 1
                            have d2 : w3.cell? ⟨w.heap.size, 2, none⟩ = some (.int .i64 0) := HH3.out.zero.cell 2
                            have f2 : w3.frozen? ⟨w.heap.size, 2, none⟩ = false := HH3.out.zero.free 2
                            have d3 : w3.cell? ⟨w.heap.size, 3, none⟩ = some (.slice none 0 0) := HH3.out.zero.cell 3
                            have f3 : w3.frozen? ⟨w.heap.size, 3, none⟩ = false := HH3.out.zero.free 3
                            go_wp2
                            exact bodyPost_ret (v := .agg #[.int .i64 x, .string nm, .int .i64 y, .slice A m ac]) (by simp [results, Tryd.results62, go_sem, d0, d1, d2, d3]) rfl (Or.inl ⟨HXK.out, fin_bad HH3.out hpl x y nm A m ac _ _ _ _⟩)
                          · have HO3 := Lib.hid (hO3.base (base0 := w.heap.size + 1) (by omega))
                            obtain ⟨A, ac, rfl⟩ := hO3.open
                            have HH3 := Lib.hid (HH2.out.read hr3 hg3 hrp)
                            have HXK := Lib.hid (show rdOt (n + 1) (restOf s i) = some (t, restOf s j3) by rw [HX.out, hx, hrr])
                            clear hr3 hg3 hx hrr hO3
                            have d0 : w3.cell? ⟨w.heap.size, 0, none⟩ = some (.int .i64 0) := HH3.out.zero.cell 0
                            have f0 : w3.frozen? ⟨w.heap.size, 0, none⟩ = false := HH3.out.zero.free 0
                            have d1 : w3.cell? ⟨w.heap.size, 1, none⟩ = some (.string ⟨#[]⟩) := HH3.out.zero.cell 1
                            have f1 : w3.frozen? ⟨w.heap.size, 1, none⟩ = false := HH3.out.zero.free 1
                            have d2 : w3.cell? ⟨w.heap.size, 2, none⟩ = some (.int .i64 0) := HH3.out.zero.cell 2
                            have f2 : w3.frozen? ⟨w.heap.size, 2, none⟩ = false := HH3.out.zero.free 2
                            have d3 : w3.cell? ⟨w.heap.size, 3, none⟩ = some (.slice none 0 0) := HH3.out.zero.cell 3
                            have f3 : w3.frozen? ⟨w.heap.size, 3, none⟩ = false := HH3.out.zero.free 3
                            go_wp2
                            exact bodyPost_ret (v := .agg #[.int .i64 t.kind, .string t.name, .int .i64 t.num, .slice A t.args.length ac]) (by simp [results, Tryd.results62, go_sem, d0, d1, d2, d3]) rfl (Or.inr ⟨_, _, HXK.out, fin_good HH3.out HO3.out hpl _ _ _ _⟩)
                        · have HX := Lib.hid (show rdOt (n + 1) (restOf s i) = none by simp only [rdOt, E1.out, E2.out, E3.out, E4.out, E5.out, E6.out, E7.out, E8.out, E9.out, E10.out, E11.out, eat_miss h40])
                          have HMU := Lib.hid (must_no p i s false 40 wx11 HH1.out.rd hs (Or.inr (eat_miss h40)))
                          clear h40
                          go_wp2_with fail
                          refine HMU.out.mono ?_
                          rintro e w2 ⟨rfl, hr2, hg2⟩
                          have HH2 := Lib.hid (HH1.out.read hr2 hg2 hrp)
                          have b2 : w2.cell? ⟨p, 2, none⟩ = some (.bool true) := Whole1.cell hr2.1 2
                          clear hr2 hg2
                          have d0 : w2.cell? ⟨w.heap.size, 0, none⟩ = some (.int .i64 0) := HH2.out.zero.cell 0
                          have f0 : w2.frozen? ⟨w.heap.size, 0, none⟩ = false := HH2.out.zero.free 0
                          have d1 : w2.cell? ⟨w.heap.size, 1, none⟩ = some (.string ⟨#[]⟩) := HH2.out.zero.cell 1
                          have f1 : w2.frozen? ⟨w.heap.size, 1, none⟩ = false := HH2.out.zero.free 1
                          have d2 : w2.cell? ⟨w.heap.size, 2, none⟩ = some (.int .i64 0) := HH2.out.zero.cell 2
                          have f2 : w2.frozen? ⟨w.heap.size, 2, none⟩ = false := HH2.out.zero.free 2
                          have d3 : w2.cell? ⟨w.heap.size, 3, none⟩ = some (.slice none 0 0) := HH2.out.zero.cell 3
                          have f3 : w2.frozen? ⟨w.heap.size, 3, none⟩ = false := HH2.out.zero.free 3
                          go_wp2
                          exact bodyPost_ret (v := .agg #[.int .i64 0, .string ⟨#[]⟩, .int .i64 0, .slice none 0 0]) (by simp [results, Tryd.results62, go_sem, d0, d1, d2, d3]) rfl (Or.inl ⟨HX.out, fin_bad HH2.out hpl 0 0 ⟨#[]⟩ none 0 0 _ _ _ _⟩)

theorem typeOne : ∀ (n : Nat), n ≤ 10 → TypeOne n (11 - (n : Int))
  | 0, _ => TypeOne.of (fun w p i s hr hs => type_stops _ w p i s true hr (.inl rfl)) (fun w p i s hr hs => (type_stops _ w p i s false hr (.inr (by decide))).mono fun e w' h => .inl ⟨rfl, h⟩)
  | n + 1, hn => TypeOne.of (fun w p i s hr hs => type_stops _ w p i s true hr (.inl rfl)) (fun w p i s hr hs => type_reads n _ (decide_eq_false (by omega)) (by rw [IntKind.wrap_i64]; omega) (by have h := typeOne n (by omega); rw [show (11 : Int) - ((n + 1 : Nat) : Int) + 1 = 11 - (n : Int) by omega]; exact h) w p i s hr hs)

end Go.Proofs.YtlmbnefoobameaaDoor.OR
end

section
namespace Go.Proofs.YtlmbnefoobameaaDoor
open Go.RowKit

theorem infoByte : (Tryd.prog.info? 5).map (fun i => (i.zero, i.size, i.bytes)) = some (some (.int .u8 0), 1, 1) := by kernel_rfl

set_option maxHeartbeats 400000 in
set_option maxRecDepth 100000 in
theorem specJoin_any (A : Option Addr) (c : Nat) (ss : List ByteArray) (sep : ByteArray) (w : World) (hA : StrsAt w w.heap.size A ss) (hn : ss.length ≤ 1048576) (hsum : sumSizes ss ≤ 1048576) (hsep : sep.size ≤ 1048576) :
    Calls Tryd.prog 97 #[.slice A ss.length c, .string sep] w fun e w' => e = .returned (.string ⟨(joinTo ss sep ss.length).toArray⟩) ∧ Below w.heap.size w w' := by
  obtain ⟨i0, hi, hz0, hz1, hz2⟩ := info_parts infoByte
  go_enter Tryd.func97, Tryd.ntmps97
  go_wp2
  go_loopw [5, 6] (fun v i wr => ∃ k : Nat, k ≤ ss.length ∧ i = .int .i64 k ∧ wr.ownsRow w.heap.size 5 1 v (joinTo ss sep k).length (cellsOf (joinTo ss sep k)) ∧ Below w.heap.size w wr) (fun _ i _ => ss.length - (intOf i).toNat)
  case atStart => exact ⟨0, Nat.zero_le _, rfl, World.ownsRow_lit w #[] 0 (Nat.le_refl _) (Nat.zero_le _) rfl, (Below.refl _ _).alloc (Nat.le_refl _) _⟩
  case round =>
    obtain ⟨k, hk, rfl, hown, hb⟩ := hrel
    by_cases hlt : k < ss.length
    · obtain ⟨b, off, rfl, hbl, hcell⟩ := (hA.below hb) k hlt
      have hl := joinTo_len ss sep k hk
      have hl1 := sumSizes_take_le ss k
      have hl2 := size_le_sumSizes ss k hlt
      have hl3 : k * sep.size ≤ 1048576 * 1048576 := Nat.mul_le_mul (by omega) hsep
      have hJ : Hid (joinTo ss sep (k + 1) = joinTo ss sep k ++ (if 0 < k then sep.data.toList else []) ++ ss[k].data.toList) := by
        show joinTo ss sep (k + 1) = _
        rw [joinTo]
        simp [hlt]
      by_cases hk0 : k = 0
      · subst hk0
        rw [Nat.add_zero] at hcell
        go_wp2_with (at_builtin; go_must (refine Lib.wpList_append_own_string _ rfl (.tmp 19) (.tmp 23) _ _ rfl w.heap.size 5 i0 Tryd.underlying22 Tryd.underlying9 hi hz0 hz1 hz2 _ _ _ rfl hown ss[0] rfl (by unfold maxLen; omega) (by omega) hb.size ?_); intro v1 w1 hown1 hg1 _)
        have hb1 := hb.grown hg1 hb.size (fun q hq => (hown.lt q hq).1)
        clear hg1 hown
        go_roundw
        case rel => exact ⟨1, by omega, by go_num, by rw [show joinTo ss sep 1 = _ from hJ.out]; simpa [cellsOf_append, cellsOf_str, joinTo, cellsOf] using hown1, hb1⟩
        case measure => simp [intOf]; omega
      · go_wp2_with (at_builtin; first
          | (refine Lib.wpList_append_own_string _ rfl (.tmp 16) (.tmp 17) _ _ rfl w.heap.size 5 i0 Tryd.underlying22 Tryd.underlying9 hi hz0 hz1 hz2 _ _ _ rfl hown sep rfl (by unfold maxLen; omega) (by omega) hb.size ?_; intro v1 w1 hown1 hg1 _; have hb1 := hb.grown hg1 hb.size (fun q hq => (hown.lt q hq).1); have hcell1 := (hb1.cell (p := ⟨b, off + k, none⟩) hbl).trans ((hb.cell (p := ⟨b, off + k, none⟩) hbl).symm.trans hcell); clear hg1 hown hcell)
          | (refine Lib.wpList_append_own_string _ rfl (.tmp 19) (.tmp 23) _ _ rfl w.heap.size 5 i0 Tryd.underlying22 Tryd.underlying9 hi hz0 hz1 hz2 _ _ _ rfl hown1 ss[k] rfl (by unfold maxLen; omega) (by omega) hb1.size ?_; intro v2 w2 hown2 hg2 _; have hb2 := hb1.grown hg2 hb1.size (fun q hq => (hown1.lt q hq).1); clear hg2 hown1))
        go_roundw
        case rel => exact ⟨k + 1, by omega, by go_num, by rw [hJ.out, if_pos (by omega)]; simpa [cellsOf_append, cellsOf_str, Nat.add_assoc, size_list] using hown2, hb2⟩
        case measure => simp [intOf]; omega
    · have hk' : k = ss.length := by omega
      subst hk'
      have hconv := run_convert_owned (P := Tryd.prog) (dst := 9) Tryd.underlying22 Tryd.underlying5 Tryd.underlying9 hown
      go_wp2
      go_ret
      exact ⟨rfl, hb⟩

end Go.Proofs.YtlmbnefoobameaaDoor
end

section
namespace Go.Proofs.YtlmbnefoobameaaDoor
open Go.RowKit

/-- The string is handed back. -/
def StrIs (s : ByteArray) (w : World) (e : Ending) (w' : World) : Prop := e = .returned (.string s) ∧ Below w.heap.size w w'
/-- What the text is joined of. -/
def piecesOf (k : Int) (ls : List ByteArray) (ts : List Ty) : List (List UInt8) := if k = 5 then txts ts else lab ls (txts ts)
theorem bytesOf_len (xs : List (List UInt8)) : (bytesOf xs).length = xs.length := by simp [bytesOf]

theorem sizeTys_len : ∀ (ts : List Ty), ts.length ≤ sizeTys ts
  | [] => Nat.le_refl _
  | t :: r => by
    have h1 := sizeTys_len r
    have h2 := sizeTy_eq t
    rw [sizeTys, List.length_cons]
    omega

def TextOne (f : Nat) (t : Ty) : Prop := ∀ (v : Value) (w : World), TyAt w w.heap.size v t → formTy t = true → sizeTy t ≤ 1000 → Calls Tryd.prog f #[v] w (StrIs ⟨(txt t).toArray⟩ w)

theorem own_strings {w : World} {base n : Nat} {v : Value} {ss : List ByteArray} (h : w.ownsRow base 9 1 v n (strVals ss)) : ∃ A c, v = .slice A ss.length c ∧ StrsAt w w.heap.size A ss := by
  rcases RowStrs.of_own h with ⟨rfl, rfl⟩ | ⟨g, cap, rfl, h1, h2⟩
  · exact ⟨none, 0, rfl, StrsAt.empty _ _ _⟩
  · exact ⟨_, _, rfl, h2.at _ h2.lt⟩
theorem byte3 (a : UInt8) (x : List UInt8) (b : UInt8) : (⟨#[a]⟩ ++ ⟨x.toArray⟩ ++ ⟨#[b]⟩ : ByteArray) = ⟨(a :: (x ++ [b])).toArray⟩ := by
  apply ByteArray.ext
  rw [ByteArray.data_append, ByteArray.data_append]
  simp

end Go.Proofs.YtlmbnefoobameaaDoor
end
