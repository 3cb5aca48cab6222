/- Lemmas: ReadVList, Read, SpecParseInt. -/
import Derived.Test.YtceclhndagoddaaGreatDoorLawFnValueText_18
import Derived.Deep.DeepCutAuto
import Derived.Deep.CutRange
import Derived.Test.YtceclhndagoddaaGreatDoorLawFnValueText_15
import Derived.Test.YtceclhndagoddaaGreatDoorLawFnValueText_13
import Derived.WalkKit
import Derived.BigGuard
import Derived.Laws.Strings

section
namespace Go.Proofs.YtceclhndagoddaaGreatDoor.V
open Go.RowKit

/-- The state at the loop's head. -/
def AtLst (w : World) (p : Nat) (s : ByteArray) (i F : Nat) (f : List UInt8 → Option (Va × List UInt8)) (wr : World) : Prop :=
  ∃ (ts : List Va) (A : Option Addr) (ac : Nat) (xs : List Value) (vs : Nat → Value) (lo hi : Nat → Nat) (j fuel : Nat),
    Making w wr p (w.heap.size + 1) w.heap.size s j false (.int .i64 5) (.slice none 0 0) (.slice A ts.length ac) ∧ OwnVAt wr (w.heap.size + 1 + 1) none 0 A ac (.mk 5 0 ⟨#[]⟩ [] ts) xs vs lo hi ∧
    ts.length ≤ j ∧ Hid (rdSeq f F (restOf s i) = glueL ts (rdSeq f fuel (restOf s j))) ∧ Hid ((restOf s j).length < fuel)

set_option maxHeartbeats 4000000 in
set_option maxRecDepth 100000 in
theorem readList (n : Nat) (d : Int) (H : TypeOne n d) (w : World) (p i : Nat) (s : ByteArray) (hr : RdAt w p s i false) (hs : s.size ≤ 1048576) :
    Calls Tryz.prog 58 #[.pointer (some ⟨p, 0, none⟩), .int .i64 d] w fun e w' => (rdList (rdVaS n) (restOf s i) = none ∧ Bads w p s e w') ∨ ∃ t r, rdList (rdVaS n) (restOf s i) = some (t, r) ∧ Goods w p s t r e w' := by
  obtain ⟨i0, hi0, hz0, hz1, hz2⟩ := info_parts infoString
  obtain ⟨i1, hi1, hy0, hy1, hy2⟩ := info_parts infoValue
  have hpl := hr.lt
  obtain ⟨hb0, r0, q0, hs0⟩ := boxes2 w 27 27 #[.int .i64 0, .int .i64 0, .string ⟨#[]⟩, .slice none 0 0, .slice none 0 0] #[.int .i64 5, .int .i64 0, .string ⟨#[]⟩, .slice none 0 0, .slice none 0 0]
  have hM0 : Making w ((w.alloc (.cells #[.int .i64 0, .int .i64 0, .string ⟨#[]⟩, .slice none 0 0, .slice none 0 0] 27)).alloc (.cells #[.int .i64 5, .int .i64 0, .string ⟨#[]⟩, .slice none 0 0, .slice none 0 0] 27)) p (w.heap.size + 1) w.heap.size s i false (.int .i64 5) (.slice none 0 0) (.slice none 0 0) := ⟨hr.below hb0 hpl, q0, r0, grown_low (only_refl w (some p)) hb0 (Nat.le_refl _)⟩
  have HMZ := Lib.hid hM0
  have HB := Lib.hid H
  have hzp : w.heap.size + 1 ≠ p := by omega
  have hrp : w.heap.size ≠ p := by omega
  have hzr : w.heap.size + 1 ≠ w.heap.size := by omega
  clear hr r0 q0 hM0 H hb0 hs0
  go_enter Tryz.func58, Tryz.ntmps58
  go_upto_region 2 with fail
  generalize (w.alloc (.cells #[.int .i64 0, .int .i64 0, .string ⟨#[]⟩, .slice none 0 0, .slice none 0 0] 27)).alloc (.cells #[.int .i64 5, .int .i64 0, .string ⟨#[]⟩, .slice none 0 0, .slice none 0 0] 27) = w1 at *
  by_cases h93 : ∃ hk : i < s.size, s[i] = 93
  · obtain ⟨hk, hc⟩ := h93
    have HT := Lib.hid (take_yes p i s 93 w1 HMZ.out.rd hs hk hc)
    have HSOME := Lib.hid (show rdList (rdVaS n) (restOf s i) = some (.mk 5 0 ⟨#[]⟩ [] [], restOf s (i + 1)) by simp only [rdList, rdSeqE, eat_hit hk hc])
    clear hc
    go_wp2_with fail
    refine HT.out.mono ?_
    rintro e w9 ⟨rfl, hr9, hg9⟩
    have HM9 := Lib.hid (HMZ.out.read hr9 hg9 hzp hrp)
    clear hr9 hg9
    have d0 : w9.cell? ⟨w.heap.size + 1, 0, none⟩ = some (.int .i64 5) := HM9.out.box.cell 0
    have d1 : w9.cell? ⟨w.heap.size + 1, 1, none⟩ = some (.int .i64 0) := HM9.out.box.cell 1
    have d2 : w9.cell? ⟨w.heap.size + 1, 2, none⟩ = some (.string ⟨#[]⟩) := HM9.out.box.cell 2
    have d3 : w9.cell? ⟨w.heap.size + 1, 3, none⟩ = some (.slice none 0 0) := HM9.out.box.cell 3
    have d4 : w9.cell? ⟨w.heap.size + 1, 4, none⟩ = some (.slice none 0 0) := HM9.out.box.cell 4
    have e0 : w9.cell? ⟨w.heap.size, 0, none⟩ = some (.int .i64 0) := HM9.out.zero.cell 0
    have f0 : w9.frozen? ⟨w.heap.size, 0, none⟩ = false := HM9.out.zero.free 0
    have e1 : w9.cell? ⟨w.heap.size, 1, none⟩ = some (.int .i64 0) := HM9.out.zero.cell 1
    have f1 : w9.frozen? ⟨w.heap.size, 1, none⟩ = false := HM9.out.zero.free 1
    have e2 : w9.cell? ⟨w.heap.size, 2, none⟩ = some (.string ⟨#[]⟩) := HM9.out.zero.cell 2
    have f2 : w9.frozen? ⟨w.heap.size, 2, none⟩ = false := HM9.out.zero.free 2
    have e3 : w9.cell? ⟨w.heap.size, 3, none⟩ = some (.slice none 0 0) := HM9.out.zero.cell 3
    have f3 : w9.frozen? ⟨w.heap.size, 3, none⟩ = false := HM9.out.zero.free 3
    have e4 : w9.cell? ⟨w.heap.size, 4, none⟩ = some (.slice none 0 0) := HM9.out.zero.cell 4
    have f4 : w9.frozen? ⟨w.heap.size, 4, none⟩ = false := HM9.out.zero.free 4
    have HF := Lib.hid (fun a b c d e => box_grown5 HM9.out.grown (Nat.le_refl w.heap.size) a b c d e)
    have HR := Lib.hid (fun a b c d e => HM9.out.rd.block (w' := (((((w9.setCell ⟨w.heap.size, 0, none⟩ a).setCell ⟨w.heap.size, 1, none⟩ b).setCell ⟨w.heap.size, 2, none⟩ c).setCell ⟨w.heap.size, 3, none⟩ d).setCell ⟨w.heap.size, 4, none⟩ e)) (set5_keep _ _ _ _ _ _ _ _ (fun e => hrp e.symm)))
    go_wp2
    exact bodyPost_ret (v := .agg #[.int .i64 5, .int .i64 0, .string ⟨#[]⟩, .slice none 0 0, .slice none 0 0]) (by simp [results, Tryz.results58, go_sem, e0, e1, e2, e3, e4]) rfl (Or.inr ⟨_, _, HSOME.out, _, i + 1, rfl, rfl, HR.out _ _ _ _ _, OwnVa.leaf _ _ 5 0 ⟨#[]⟩ (by decide), HF.out _ _ _ _ _⟩)
  · have HN93 := Lib.hid (eat_miss h93)
    have HT := Lib.hid (take_other p i s 93 w1 HMZ.out.rd hs (eat_miss h93))
    clear h93
    have hR : Hid (∀ (x : Option (List Va × List UInt8)), rdSeq (rdVaS n) ((restOf s i).length + 1) (restOf s i) = x → rdList (rdVaS n) (restOf s i) = match x with | none => none | some (ts, q) => match eat 93 q with | none => none | some r => some (.mk 5 0 ⟨#[]⟩ [] ts, r)) := Lib.hid fun x hx => by
      rw [rdList, rdSeqE, HN93.out, hx]
      rcases x with _ | ⟨b, q⟩
      · rfl
      · simp only []
        cases eat 93 q <;> rfl
    go_wp2_with fail
    refine HT.out.mono ?_
    rintro e w2 ⟨rfl, hr2, hg2⟩
    have HM2 := Lib.hid (HMZ.out.read hr2 hg2 hzp hrp)
    have HO : Hid (AtLst w p s i ((restOf s i).length + 1) (rdVaS n) w2) := Lib.hid (by
      obtain ⟨xs, vs, lo, hi, hO⟩ := OwnVAt.leaf w2 (w.heap.size + 1 + 1) 5 0 ⟨#[]⟩ (by decide)
      exact ⟨[], none, 0, xs, vs, lo, hi, i, _, HM2.out, hO, Nat.zero_le _, Lib.hid (glueL_nil _).symm, Lib.hid (Nat.lt_succ_self _)⟩)
    clear hr2 hg2
    go_wp2
    go_loopw [] (fun wr => AtLst w p s i ((restOf s i).length + 1) (rdVaS n) wr) (fun wr => s.size - placeOf wr p)
    case atStart => exact HO.out
    case round =>
      obtain ⟨ts, A, ac, xs, vs, lo, hi, j, fuel, hM, hA, hlj, hmod, hfu⟩ := hrel
      have hpl2 := Lib.hid hM.rd.place
      have hjs := hM.rd.2
      have b2 : wr.cell? ⟨p, 2, none⟩ = some (.bool false) := Whole1.cell hM.rd.1 2
      have o1 : wr.cell? ⟨w.heap.size + 1, 3, none⟩ = some (.slice none 0 0) := hM.box.cell 3
      have HM := Lib.hid hM
      have HA := Lib.hid hA
      have hzl := hM.box.lt
      clear hM hA 
      have hlts : ts.length ≤ 1048576 := by omega
      have HM4 := Lib.hid HM.out
      have HA4 := Lib.hid HA.out
      have hwr : wr = wr := rfl
      clear HM HA hwr
      cases hty : rdVaS n (restOf s j) with
      | none =>
        have HNONE := Lib.hid (hR.out _ (hmod.out.trans (roundL_type (ts := ts) hfu.out hty)))
        have hbad : false = true ∨ rdVaS n (restOf s j) = none := Or.inr hty
        clear hty
        have HTB := Lib.hid (HB.out.bad wr.drew p j s false (HM4.out.rd.drewN 1) hs hbad)
        have o2 : wr.cell? ⟨w.heap.size + 1, 4, none⟩ = some (.slice A ts.length ac) := HM4.out.box.cell 4
        have hs4 := HM4.out.box.lt
        clear hbad
        go_upto_region 5 with fail
        go_cut [] from 10 to 25 (fun wx => ∃ (A' : Option Addr) (m' ac' j' : Nat), Making w wx p (w.heap.size + 1) w.heap.size s j' true (.int .i64 5) (.slice none 0 0) (.slice A' m' ac'))
        case first =>
          go_region_law (first
            | (go_simp; go_at_call 26; (with_reducible refine HTB.out.mono ?_); rintro e w5 ⟨x1, x2, nm1, M1, n1, c1, M2, n2, c2, j', rfl, hr5, hg5'⟩; have hg5 := grown_drewR hg5'; clear hg5'; have hM5 := HM4.out.read hr5 hg5 hzp hrp; have HM5 := Lib.hid hM5; have HA5 := Lib.hid ((HA4.out.grown hg5 (by omega)).alloc (.cells #[.int .i64 x1, .int .i64 x2, .string nm1, .slice M1 n1 c1, .slice M2 n2 c2] 27)); have hs5 := hg5.size; have y2 : w5.cell? ⟨w.heap.size + 1, 4, none⟩ = some (.slice A ts.length ac) := hM5.box.cell 4; have y3 : (w5.alloc (.cells #[.int .i64 x1, .int .i64 x2, .string nm1, .slice M1 n1 c1, .slice M2 n2 c2] 27)).cell? ⟨w.heap.size + 1, 4, none⟩ = some (.slice A ts.length ac) := (((Below.refl w5.heap.size w5).alloc (Nat.le_refl _) (.cells #[.int .i64 x1, .int .i64 x2, .string nm1, .slice M1 n1 c1, .slice M2 n2 c2] 27)).cell (p := ⟨w.heap.size + 1, 4, none⟩) hM5.box.lt).trans y2; have hN := news5 w5 27 (.int .i64 x1) (.int .i64 x2) (.string nm1) (.slice M1 n1 c1) (.slice M2 n2 c2); clear hM5)
            | (refine step_append_lies _ (by rfl) (.tmp 16) (.tmp 20) _ (by rfl) (w.heap.size + 1 + 1) 27 i1 (.agg #[.int .i64 0, .int .i64 0, .string ⟨#[]⟩, .slice none 0 0, .slice none 0 0]) 5 80 Tryz.underlying25 hi1 hy0 hy1 hy2 rfl (by decide) _ ts.length xs (by rfl) HA5.out.parts.own ⟨w5.heap.size, 0, none⟩ 1 1 [.int .i64 x1, .int .i64 x2, .string nm1, .slice M1 n1 c1, .slice M2 n2 c2] (by rfl) rfl hN.1 hN.2 (by omega) (by unfold maxLen; omega) (by omega) (by simp; omega) (w5.heap.size + 1) (by simp) ?_; intro g cap w6 hown6 hg6 hat6 hlt6; have hlo := (fun q (hq : (Value.slice A ts.length ac).ownBlock = some q) => (HA5.out.parts.own.lt q hq).1); have hB6 : Below (w.heap.size + 1 + 1) w5 w6 := ((Below.refl (w.heap.size + 1 + 1) w5).alloc (by omega) _).grown hg6 (by simp; omega) hlo; have hM6 := HM5.out.more hB6 (by omega) (by omega) (by omega) (by omega); have HM7 := Lib.hid (hM6.put2 (.slice (some ⟨g, 0, none⟩) (ts.length + 1) cap) hzp hzr (by omega)); have m1 : w6.cell? ⟨w.heap.size + 1, 4, none⟩ = some (.slice A ts.length ac) := hM6.box.cell 4; have n1 : w6.frozen? ⟨w.heap.size + 1, 4, none⟩ = false := hM6.box.free 4; clear hM6 hB6 hown6 hg6 hat6 hlo))
          all_goals go_wp2
          all_goals go_meet
          all_goals exact ⟨some ⟨g, 0, none⟩, ts.length + 1, cap, j', HM7.out⟩
        case rest =>
          obtain ⟨A', m', ac', j9, hM7⟩ := hcut
          have HT7 := Lib.hid (take_bad p j9 s 44 wc hM7.rd)
          have HM7 := Lib.hid hM7
          clear hM7 HTB HA4
          go_wp2_with fail
          refine HT7.out.mono ?_
          rintro e w8 ⟨rfl, hr8, hg8⟩
          have HM8 := Lib.hid (HM7.out.read hr8 hg8 hzp hrp)
          have HMU := Lib.hid (must_no p j9 s true 93 w8 hr8 hs (Or.inl rfl))
          clear hr8 hg8
          go_wp2_with fail
          refine HMU.out.mono ?_
          rintro e w9 ⟨rfl, hr9, hg9⟩
          have HM9 := Lib.hid (HM8.out.read hr9 hg9 hzp hrp)
          clear hr9 hg9
          have d0 : w9.cell? ⟨w.heap.size + 1, 0, none⟩ = some (.int .i64 5) := HM9.out.box.cell 0
          have d1 : w9.cell? ⟨w.heap.size + 1, 1, none⟩ = some (.int .i64 0) := HM9.out.box.cell 1
          have d2 : w9.cell? ⟨w.heap.size + 1, 2, none⟩ = some (.string ⟨#[]⟩) := HM9.out.box.cell 2
          have d3 : w9.cell? ⟨w.heap.size + 1, 3, none⟩ = some (.slice none 0 0) := HM9.out.box.cell 3
          have d4 : w9.cell? ⟨w.heap.size + 1, 4, none⟩ = some (.slice A' m' ac') := HM9.out.box.cell 4
          have e0 : w9.cell? ⟨w.heap.size, 0, none⟩ = some (.int .i64 0) := HM9.out.zero.cell 0
          have f0 : w9.frozen? ⟨w.heap.size, 0, none⟩ = false := HM9.out.zero.free 0
          have e1 : w9.cell? ⟨w.heap.size, 1, none⟩ = some (.int .i64 0) := HM9.out.zero.cell 1
          have f1 : w9.frozen? ⟨w.heap.size, 1, none⟩ = false := HM9.out.zero.free 1
          have e2 : w9.cell? ⟨w.heap.size, 2, none⟩ = some (.string ⟨#[]⟩) := HM9.out.zero.cell 2
          have f2 : w9.frozen? ⟨w.heap.size, 2, none⟩ = false := HM9.out.zero.free 2
          have e3 : w9.cell? ⟨w.heap.size, 3, none⟩ = some (.slice none 0 0) := HM9.out.zero.cell 3
          have f3 : w9.frozen? ⟨w.heap.size, 3, none⟩ = false := HM9.out.zero.free 3
          have e4 : w9.cell? ⟨w.heap.size, 4, none⟩ = some (.slice none 0 0) := HM9.out.zero.cell 4
          have f4 : w9.frozen? ⟨w.heap.size, 4, none⟩ = false := HM9.out.zero.free 4
          have HF := Lib.hid (fun a b c d e => box_grown5 HM9.out.grown (Nat.le_refl w.heap.size) a b c d e)
          have HR := Lib.hid (fun a b c d e => HM9.out.rd.block (w' := (((((w9.setCell ⟨w.heap.size, 0, none⟩ a).setCell ⟨w.heap.size, 1, none⟩ b).setCell ⟨w.heap.size, 2, none⟩ c).setCell ⟨w.heap.size, 3, none⟩ d).setCell ⟨w.heap.size, 4, none⟩ e)) (set5_keep _ _ _ _ _ _ _ _ (fun e => hrp e.symm)))
          go_wp2
          exact bodyPost_ret (v := .agg #[.int .i64 5, .int .i64 0, .string ⟨#[]⟩, .slice none 0 0, .slice A' m' ac']) (by simp [results, Tryz.results58, go_sem, e0, e1, e2, e3, e4]) rfl (Or.inl ⟨HNONE.out, 5, 0, ⟨#[]⟩, none, _, 0, A', m', ac', j9, rfl, HR.out _ _ _ _ _, HF.out _ _ _ _ _⟩)
      | some tr =>
        obtain ⟨t, r⟩ := tr
        have HTG := Lib.hid (HB.out.good wr.drew p j s t r (HM4.out.rd.drewN 1) hs hty)
        have o2 : wr.cell? ⟨w.heap.size + 1, 4, none⟩ = some (.slice A ts.length ac) := HM4.out.box.cell 4
        have hs4 := HM4.out.box.lt
        have HTY := Lib.hid hty
        clear hty
        go_upto_region 5 with fail
        go_cut [] from 10 to 25 (fun wx => ∃ (A' : Option Addr) (ac' j' : Nat) (xs' : List Value) (vs' : Nat → Value) (lo' hi' : Nat → Nat), Making w wx p (w.heap.size + 1) w.heap.size s j' false (.int .i64 5) (.slice none 0 0) (.slice A' (ts ++ [t]).length ac') ∧ OwnVAt wx (w.heap.size + 1 + 1) none 0 A' ac' (.mk 5 0 ⟨#[]⟩ [] (ts ++ [t])) xs' vs' lo' hi' ∧ r = restOf s j')
        case first =>
          go_region_law (first
            | (go_simp; go_at_call 26; (with_reducible refine HTG.out.mono ?_); rintro e w5 ⟨v1, j', rfl, hrr, hr5, hO5, hg5'⟩; have hI5 := hO5.owned; obtain ⟨T1, U1, T2, U2, rfl⟩ := hO5.open; have HRR := Lib.hid hrr; clear hrr hO5; have hg5 := grown_drewR hg5'; clear hg5'; have hM5 := HM4.out.read hr5 hg5 hzp hrp; have HM5 := Lib.hid hM5; have HA5 := Lib.hid ((HA4.out.grown hg5 (by omega)).alloc (.cells #[.int .i64 t.kind, .int .i64 t.num, .string t.name, .slice T1 t.labels.length U1, .slice T2 t.args.length U2] 27)); have hs5 := hg5.size; have y2 : w5.cell? ⟨w.heap.size + 1, 4, none⟩ = some (.slice A ts.length ac) := hM5.box.cell 4; have y3 : (w5.alloc (.cells #[.int .i64 t.kind, .int .i64 t.num, .string t.name, .slice T1 t.labels.length U1, .slice T2 t.args.length U2] 27)).cell? ⟨w.heap.size + 1, 4, none⟩ = some (.slice A ts.length ac) := (((Below.refl w5.heap.size w5).alloc (Nat.le_refl _) (.cells #[.int .i64 t.kind, .int .i64 t.num, .string t.name, .slice T1 t.labels.length U1, .slice T2 t.args.length U2] 27)).cell (p := ⟨w.heap.size + 1, 4, none⟩) hM5.box.lt).trans y2; have hN := news5 w5 27 (.int .i64 t.kind) (.int .i64 t.num) (.string t.name) (.slice T1 t.labels.length U1) (.slice T2 t.args.length U2); have HI5 := Lib.hid hI5; obtain ⟨w4', ht1, ht2, ht3⟩ := turned HM4.out.rd hr5 hg5; have HT1 := Lib.hid (HA4.out.grown ht1 (by omega)); have HT2 := Lib.hid ht2; have HT3 := Lib.hid ht3; clear ht1 ht2 ht3 hI5; clear hM5)
            | (refine step_append_lies _ (by rfl) (.tmp 16) (.tmp 20) _ (by rfl) (w.heap.size + 1 + 1) 27 i1 (.agg #[.int .i64 0, .int .i64 0, .string ⟨#[]⟩, .slice none 0 0, .slice none 0 0]) 5 80 Tryz.underlying25 hi1 hy0 hy1 hy2 rfl (by decide) _ ts.length xs (by rfl) HA5.out.parts.own ⟨w5.heap.size, 0, none⟩ 1 1 [.int .i64 t.kind, .int .i64 t.num, .string t.name, .slice T1 t.labels.length U1, .slice T2 t.args.length U2] (by rfl) rfl hN.1 hN.2 (by omega) (by unfold maxLen; omega) (by omega) (by simp; omega) (w5.heap.size + 1) (by simp) ?_; intro g cap w6 hown6 hg6 hat6 hlt6; have hlo := (fun q (hq : (Value.slice A ts.length ac).ownBlock = some q) => (HA5.out.parts.own.lt q hq).1); have hB6 : Below (w.heap.size + 1 + 1) w5 w6 := ((Below.refl (w.heap.size + 1 + 1) w5).alloc (by omega) _).grown hg6 (by simp; omega) hlo; have hM6 := HM5.out.more hB6 (by omega) (by omega) (by omega) (by omega); have HM7 := Lib.hid (hM6.put2 (.slice (some ⟨g, 0, none⟩) (ts.length + 1) cap) hzp hzr (by omega)); have HA7 := Lib.hid ((HT1.out.arg t (by rw [HT2.out]; exact HT3.out) (by rw [HT2.out]; omega) (by unfold maxLen; show ts.length + 1 ≤ _; omega) (by rw [HT2.out]; exact HI5.out) hown6 hg6 hat6).setz (i := 4) (.slice (some ⟨g, 0, none⟩) (ts.length + 1) cap)); have m1 : w6.cell? ⟨w.heap.size + 1, 4, none⟩ = some (.slice A ts.length ac) := hM6.box.cell 4; have n1 : w6.frozen? ⟨w.heap.size + 1, 4, none⟩ = false := hM6.box.free 4; clear hM6 hB6 hown6 hg6 hat6 hlo))
          all_goals go_wp2
          all_goals go_meet
          all_goals exact ⟨some ⟨g, 0, none⟩, cap, j', _, _, _, _, by rw [show (ts ++ [t]).length = ts.length + 1 by simp]; exact HM7.out, HA7.out, HRR.out⟩
        case rest =>
          obtain ⟨A', ac', j9, xs', vs', lo', hi', hM7, hA7, hrr⟩ := hcut
          have hsd := rdVaS_pos n _ _ _ HTY.out
          have hj9 : j + 1 ≤ j9 := by
            have h1 := hsd
            rw [hrr, restOf_len, restOf_len] at h1
            have := hM7.rd.2
            omega
          subst hrr
          have HM7 := Lib.hid hM7
          have HA7 := Lib.hid hA7
          have hj92 := hM7.rd.2
          clear hM7 hA7 HTG HA4 hsd
          by_cases h44 : ∃ hj : j9 < s.size, s[j9] = 44
          · obtain ⟨hj, hc44⟩ := h44
            have HT7 := Lib.hid (take_yes p j9 s 44 wc HM7.out.rd hs hj hc44)
            have hmod2 := Lib.hid (hmod.out.trans (roundL_more (ts := ts) hfu.out HTY.out (eat_hit hj hc44)))
            clear hc44
            go_wp2_with fail
            refine HT7.out.mono ?_
            rintro e w8 ⟨rfl, hr8, hg8⟩
            have HM8 := Lib.hid (HM7.out.read hr8 hg8 hzp hrp)
            have HA8 := Lib.hid (HA7.out.grown hg8 (by omega))
            have HP8 := Lib.hid hr8.place
            clear hr8 hg8
            go_wp2
            go_roundw
            case rel => exact ⟨ts ++ [t], A', ac', xs', vs', lo', hi', j9 + 1, fuel - 1, HM8.out, HA8.out, by rw [List.length_append, List.length_singleton]; omega, hmod2, Lib.hid (by have := hfu.out; rw [restOf_len] at this ⊢; omega)⟩
            case measure =>
              rw [HP8.out, hpl2.out]
              omega
          · have HT7 := Lib.hid (take_other p j9 s 44 wc HM7.out.rd hs (eat_miss h44))
            have hmod2 := Lib.hid (hmod.out.trans (roundL_last (ts := ts) hfu.out HTY.out (eat_miss h44)))
            clear h44
            go_wp2_with fail
            refine HT7.out.mono ?_
            rintro e w8 ⟨rfl, hr8, hg8⟩
            have HM8 := Lib.hid (HM7.out.read hr8 hg8 hzp hrp)
            have HA8 := Lib.hid (HA7.out.grown hg8 (by omega))
            by_cases hend : ∃ hj : j9 < s.size, s[j9] = 93
            · obtain ⟨hj, hce⟩ := hend
              have HSOME := Lib.hid ((hR.out _ hmod2.out).trans (by simp only [eat_hit hj hce] : _ = some (Va.mk 5 0 ⟨#[]⟩ [] (ts ++ [t]), restOf s (j9 + 1))))
              have HMU := Lib.hid (must_yes p j9 s 93 w8 hr8 hs hj hce)
              clear hr8 hg8 hce
              go_wp2_with fail
              refine HMU.out.mono ?_
              rintro e w9 ⟨rfl, hr9, hg9⟩
              have HM9 := Lib.hid (HM8.out.read hr9 hg9 hzp hrp)
              have HA9 := Lib.hid (HA8.out.grown hg9 (by omega))
              clear hr9 hg9
              have d0 : w9.cell? ⟨w.heap.size + 1, 0, none⟩ = some (.int .i64 5) := HM9.out.box.cell 0
              have d1 : w9.cell? ⟨w.heap.size + 1, 1, none⟩ = some (.int .i64 0) := HM9.out.box.cell 1
              have d2 : w9.cell? ⟨w.heap.size + 1, 2, none⟩ = some (.string ⟨#[]⟩) := HM9.out.box.cell 2
              have d3 : w9.cell? ⟨w.heap.size + 1, 3, none⟩ = some (.slice none 0 0) := HM9.out.box.cell 3
              have d4 : w9.cell? ⟨w.heap.size + 1, 4, none⟩ = some (.slice A' (ts ++ [t]).length ac') := HM9.out.box.cell 4
              have e0 : w9.cell? ⟨w.heap.size, 0, none⟩ = some (.int .i64 0) := HM9.out.zero.cell 0
              have f0 : w9.frozen? ⟨w.heap.size, 0, none⟩ = false := HM9.out.zero.free 0
              have e1 : w9.cell? ⟨w.heap.size, 1, none⟩ = some (.int .i64 0) := HM9.out.zero.cell 1
              have f1 : w9.frozen? ⟨w.heap.size, 1, none⟩ = false := HM9.out.zero.free 1
              have e2 : w9.cell? ⟨w.heap.size, 2, none⟩ = some (.string ⟨#[]⟩) := HM9.out.zero.cell 2
              have f2 : w9.frozen? ⟨w.heap.size, 2, none⟩ = false := HM9.out.zero.free 2
              have e3 : w9.cell? ⟨w.heap.size, 3, none⟩ = some (.slice none 0 0) := HM9.out.zero.cell 3
              have f3 : w9.frozen? ⟨w.heap.size, 3, none⟩ = false := HM9.out.zero.free 3
              have e4 : w9.cell? ⟨w.heap.size, 4, none⟩ = some (.slice none 0 0) := HM9.out.zero.cell 4
              have f4 : w9.frozen? ⟨w.heap.size, 4, none⟩ = false := HM9.out.zero.free 4
              have HF := Lib.hid (fun a b c d e => box_grown5 HM9.out.grown (Nat.le_refl w.heap.size) a b c d e)
              have HR := Lib.hid (fun a b c d e => HM9.out.rd.block (w' := (((((w9.setCell ⟨w.heap.size, 0, none⟩ a).setCell ⟨w.heap.size, 1, none⟩ b).setCell ⟨w.heap.size, 2, none⟩ c).setCell ⟨w.heap.size, 3, none⟩ d).setCell ⟨w.heap.size, 4, none⟩ e)) (set5_keep _ _ _ _ _ _ _ _ (fun e => hrp e.symm)))
              have HK : Hid (∀ a b c d e g, g ≠ w.heap.size → (((((w9.setCell ⟨w.heap.size, 0, none⟩ a).setCell ⟨w.heap.size, 1, none⟩ b).setCell ⟨w.heap.size, 2, none⟩ c).setCell ⟨w.heap.size, 3, none⟩ d).setCell ⟨w.heap.size, 4, none⟩ e).heap[g]? = w9.heap[g]?) := Lib.hid fun a b c d e g hg => set5_keep _ _ _ _ _ _ _ _ hg
              go_wp2
              exact bodyPost_ret (v := .agg #[.int .i64 5, .int .i64 0, .string ⟨#[]⟩, .slice none 0 0, .slice A' (ts ++ [t]).length ac']) (by simp [results, Tryz.results58, go_sem, e0, e1, e2, e3, e4]) rfl (Or.inr ⟨_, _, HSOME.out, _, j9 + 1, rfl, rfl, HR.out _ _ _ _ _, (HA9.out.keep (by simp [World.setCell]) (fun g hg _ => HK.out _ _ _ _ _ g (by have := (HA9.out.row.lt g hg).1; omega)) (fun g hg _ => HK.out _ _ _ _ _ g (by have := (HA9.out.parts.own.lt g hg).1; omega)) (fun i' hi' b hb _ => HK.out _ _ _ _ _ b (by have := (HA9.out.parts.low i' hi').1; have := hb.1; omega))).own.base (by omega), HF.out _ _ _ _ _⟩)
            · have HNONE := Lib.hid ((hR.out _ hmod2.out).trans (by simp only [eat_miss hend] : _ = none))
              have HMU := Lib.hid (must_no p j9 s false 93 w8 hr8 hs (Or.inr (eat_miss hend)))
              clear hr8 hg8 hend
              go_wp2_with fail
              refine HMU.out.mono ?_
              rintro e w9 ⟨rfl, hr9, hg9⟩
              have HM9 := Lib.hid (HM8.out.read hr9 hg9 hzp hrp)
              clear hr9 hg9
              have d0 : w9.cell? ⟨w.heap.size + 1, 0, none⟩ = some (.int .i64 5) := HM9.out.box.cell 0
              have d1 : w9.cell? ⟨w.heap.size + 1, 1, none⟩ = some (.int .i64 0) := HM9.out.box.cell 1
              have d2 : w9.cell? ⟨w.heap.size + 1, 2, none⟩ = some (.string ⟨#[]⟩) := HM9.out.box.cell 2
              have d3 : w9.cell? ⟨w.heap.size + 1, 3, none⟩ = some (.slice none 0 0) := HM9.out.box.cell 3
              have d4 : w9.cell? ⟨w.heap.size + 1, 4, none⟩ = some (.slice A' (ts ++ [t]).length ac') := HM9.out.box.cell 4
              have e0 : w9.cell? ⟨w.heap.size, 0, none⟩ = some (.int .i64 0) := HM9.out.zero.cell 0
              have f0 : w9.frozen? ⟨w.heap.size, 0, none⟩ = false := HM9.out.zero.free 0
              have e1 : w9.cell? ⟨w.heap.size, 1, none⟩ = some (.int .i64 0) := HM9.out.zero.cell 1
              have f1 : w9.frozen? ⟨w.heap.size, 1, none⟩ = false := HM9.out.zero.free 1
              have e2 : w9.cell? ⟨w.heap.size, 2, none⟩ = some (.string ⟨#[]⟩) := HM9.out.zero.cell 2
              have f2 : w9.frozen? ⟨w.heap.size, 2, none⟩ = false := HM9.out.zero.free 2
              have e3 : w9.cell? ⟨w.heap.size, 3, none⟩ = some (.slice none 0 0) := HM9.out.zero.cell 3
              have f3 : w9.frozen? ⟨w.heap.size, 3, none⟩ = false := HM9.out.zero.free 3
              have e4 : w9.cell? ⟨w.heap.size, 4, none⟩ = some (.slice none 0 0) := HM9.out.zero.cell 4
              have f4 : w9.frozen? ⟨w.heap.size, 4, none⟩ = false := HM9.out.zero.free 4
              have HF := Lib.hid (fun a b c d e => box_grown5 HM9.out.grown (Nat.le_refl w.heap.size) a b c d e)
              have HR := Lib.hid (fun a b c d e => HM9.out.rd.block (w' := (((((w9.setCell ⟨w.heap.size, 0, none⟩ a).setCell ⟨w.heap.size, 1, none⟩ b).setCell ⟨w.heap.size, 2, none⟩ c).setCell ⟨w.heap.size, 3, none⟩ d).setCell ⟨w.heap.size, 4, none⟩ e)) (set5_keep _ _ _ _ _ _ _ _ (fun e => hrp e.symm)))
              go_wp2
              exact bodyPost_ret (v := .agg #[.int .i64 5, .int .i64 0, .string ⟨#[]⟩, .slice none 0 0, .slice A' (ts ++ [t]).length ac']) (by simp [results, Tryz.results58, go_sem, e0, e1, e2, e3, e4]) rfl (Or.inl ⟨HNONE.out, 5, 0, ⟨#[]⟩, none, _, 0, A', _, ac', j9, rfl, HR.out _ _ _ _ _, HF.out _ _ _ _ _⟩)

end Go.Proofs.YtceclhndagoddaaGreatDoor.V
end

section
namespace Go.Proofs.YtceclhndagoddaaGreatDoor
open Go.RowKit

/-- What l1Read answers: the number that the string spells, or 0 and false where none of at most k + 1 digits does. -/
def ReadPost (l : List UInt8) (k : Nat) (w : World) (e : Ending) (w' : World) : Prop :=
  ((∃ n : Int, e = .returned (.tuple #[.int .i64 n, .bool true]) ∧ l = Lib.itoa n ∧ n.natAbs < 10 ^ (k + 1)) ∨
    (e = .returned (.tuple #[.int .i64 0, .bool false]) ∧ ∀ n : Int, n.natAbs < 10 ^ (k + 1) → l ≠ Lib.itoa n)) ∧ Below w.heap.size w w'

theorem extract_tail (s : ByteArray) : (s.extract 1 s.size).data.toList = s.data.toList.tail := by
  rw [ByteArray.data_extract, Array.toList_extract]
  cases h : s.data.toList with
  | nil => simp
  | cons c r =>
    have hs : s.size = r.length + 1 := by
      have : s.data.toList.length = s.size := by simp
      rw [← this, h]
      simp
    rw [hs]
    simp [List.extract]

set_option maxHeartbeats 1000000 in
theorem read_neg (s : ByteArray) (k : Nat) (w : World) (hs : s.size ≤ 1048576) (hk : k ≤ 11) (h0 : 0 < s.size) (h45 : s[0] = 45) :
    Calls Tryz.prog 95 #[.string s, .int .i64 (k + 1)] w (ReadPost s.data.toList k w) := by
  have hp : (0 : Int) < s.size := by omega
  have h45' : ((s[0].toNat : Int) == 45) = true := by rw [h45]; decide
  have H45 := Lib.hid h45
  clear h45
  have hl : s.data.toList.length = s.size := by simp
  have hhead : s.data.toList.head? = some 45 := by
    rw [List.head?_eq_getElem?, List.getElem?_eq_getElem (by rw [hl]; exact h0)]
    exact congrArg some H45.out
  have hhd := Lib.hid hhead
  have HB := Lib.hid (show behind s.data.toList = s.data.toList.tail by unfold behind; rw [if_pos hhead])
  have HL := Lib.hid hl
  clear hhead hl
  by_cases hA : s.size - 1 < 1
  · have hA' : ((s.size - 1 : Nat) : Int) < 1 := by omega
    go_enter Tryz.func95, Tryz.ntmps95
    go_wp2
    go_ret2
    refine ⟨.inr ⟨rfl, no_short (k := k) (.inl ?_)⟩, Below.refl _ _⟩
    rw [HB.out, List.length_tail, HL.out]
    omega
  · by_cases hB : k + 1 < s.size - 1
    · have hB' : (k : Int) + 1 < ((s.size - 1 : Nat) : Int) := by omega
      have hA' : ¬ ((s.size - 1 : Nat) : Int) < 1 := by omega
      go_enter Tryz.func95, Tryz.ntmps95
      go_wp2
      go_ret2
      refine ⟨.inr ⟨rfl, no_short (k := k) (.inr ?_)⟩, Below.refl _ _⟩
      rw [HB.out, List.length_tail, HL.out]
      omega
    · have hB' : ¬ (k : Int) + 1 < ((s.size - 1 : Nat) : Int) := by omega
      have hA' : ¬ ((s.size - 1 : Nat) : Int) < 1 := by omega
      obtain ⟨t, ht⟩ : ∃ t, t = s.extract 1 s.size := ⟨_, rfl⟩
      have htl := Lib.hid (show t.data.toList = behind s.data.toList by rw [HB.out, ht, extract_tail])
      have htl2 := Lib.hid (show t.data.toList.length = t.size by simp)
      have hts : t.size = s.size - 1 := by rw [← htl2.out, htl.out, HB.out, List.length_tail, HL.out]
      have htb : t.size ≤ k + 1 := by omega
      have HT := Lib.hid ht
      have HS := Lib.hid hts
      clear hts
      have htz : 0 < t.size := by have := HS.out; omega
      clear ht
      go_enter Tryz.func95, Tryz.ntmps95
      go_wp2
      rw [← HT.out]
      clear hA' hB' hA hB h45' hp
      clear HB
      go_loop [8, 9] (fun n i => ∃ j : Nat, j ≤ t.size ∧ i = .int .i64 j ∧ n = .int .i64 (valD (t.data.toList.take j)) ∧ ∀ i, (h : i < t.data.toList.length) → i < j → IsDig t.data.toList[i]) (fun _ i => t.size - (intOf i).toNat)
      case atStart => exact ⟨0, Nat.zero_le _, rfl, rfl, fun i h hi => absurd hi (by omega)⟩
      case round =>
        obtain ⟨j, hj, rfl, rfl, hdig⟩ := hrel
        have hD := Lib.hid hdig
        have hbd := valD_lt t.data.toList j (by rw [htl2.out]; exact hj) hdig
        have hbd2 : (10 : Nat) ^ j ≤ 10 ^ 12 := Nat.pow_le_pow_right (by omega) (by omega)
        clear hdig
        have hv : valD (t.data.toList.take j) < 1000000000000 := by omega
        have hpow := Lib.hid hbd
        clear hbd hbd2
        by_cases hlt : j < t.size
        · have hltI : (j : Int) < (t.size : Int) := by omega
          have hget : t.data.toList[j]'(by rw [htl2.out]; exact hlt) = t[j] := by rw [Array.getElem_toList]; rfl
          have hstep := Lib.hid (valD_take t.data.toList j (by rw [htl2.out]; exact hlt))
          have hG := Lib.hid hget
          clear hget
          by_cases h48 : (t[j].toNat : Int) < 48
          · go_wp2
            go_ret2
            refine ⟨.inr ⟨rfl, fun n _ => no_digit (c := t[j]) (by rw [← htl.out, ← hG.out]; exact List.getElem_mem _) (by unfold IsDig; omega) n⟩, Below.refl _ _⟩
          · by_cases h57 : (57 : Int) < t[j].toNat
            · go_wp2
              go_ret2
              refine ⟨.inr ⟨rfl, fun n _ => no_digit (c := t[j]) (by rw [← htl.out, ← hG.out]; exact List.getElem_mem _) (by unfold IsDig; omega) n⟩, Below.refl _ _⟩
            · go_wp2
              go_round
              case rel =>
                refine ⟨j + 1, by omega, by go_num, ?_, fun i h hi => ?_⟩
                · rw [hstep.out, hG.out]
                  congr 1
                  omega
                · by_cases e : i = j
                  · subst e
                    rw [hG.out]
                    unfold IsDig
                    omega
                  · exact hD.out i h (by omega)
              case measure => simp [intOf]; omega
        · have hje : j = t.size := by omega
          have hval : valD (t.data.toList.take j) = valD (behind s.data.toList) := by
            rw [← htl.out, hje, ← htl2.out, List.take_length]
          have hsg : -((valD (t.data.toList.take j) : Nat) : Int) = sign s.data.toList (valD (behind s.data.toList)) := by
            rw [← hval]
            unfold sign
            rw [if_pos hhd.out]
          have hlt12 : valD (t.data.toList.take j) < 10 ^ (k + 1) := Nat.lt_of_lt_of_le hpow.out (Nat.pow_le_pow_right (by omega) (by omega))
          have hL12 := Lib.hid hlt12
          have hS := Lib.hid hsg
          clear hval hsg hlt12 hpow
          generalize valD (t.data.toList.take j) = v at *
          have hv2 : (v : Int) < 1000000000000 := by omega
          have hfm := Lib.hid (specFormatInt_any (-(v : Int)) w (by omega) (by omega))
          go_wp2_with fail
          refine hfm.out.mono ?_
          rintro e w1 ⟨rfl, hb1⟩
          by_cases heq : s.data.toList = Lib.itoa (-(v : Int))
          · have hq : (Lib.itoa (-(v : Int)) == s.toList) = true := by rw [beq_iff_eq, ByteArray.toList_eq]; exact heq.symm
            have HQ := Lib.hid heq
            clear heq
            go_wp2
            go_ret2
            exact ⟨.inl ⟨_, rfl, HQ.out, by have := hL12.out; omega⟩, hb1⟩
          · have hq : (Lib.itoa (-(v : Int)) == s.toList) = false := by rw [beq_eq_false_iff_ne, ByteArray.toList_eq]; exact fun e => heq e.symm
            have HQ := Lib.hid heq
            clear heq
            go_wp2
            go_ret2
            refine ⟨.inr ⟨rfl, fun n _ hn => HQ.out ?_⟩, hb1⟩
            have := the_number n hn
            rw [← hS.out] at this
            rw [← this]
            exact hn

set_option maxHeartbeats 1000000 in
theorem read_pos (s : ByteArray) (k : Nat) (w : World) (hs : s.size ≤ 1048576) (hk : k ≤ 11) (h0 : 0 < s.size) (h45 : s[0] ≠ 45) :
    Calls Tryz.prog 95 #[.string s, .int .i64 (k + 1)] w (ReadPost s.data.toList k w) := by
  have hp : (0 : Int) < s.size := by omega
  have h45' : ((s[0].toNat : Int) == 45) = false := by
    rw [beq_eq_false_iff_ne]
    intro e
    exact h45 (UInt8.toNat_inj.1 (by rw [show (45 : UInt8).toNat = 45 from rfl]; omega))
  have hl : s.data.toList.length = s.size := by simp
  have hhead : ¬ s.data.toList.head? = some 45 := by
    rw [List.head?_eq_getElem?, List.getElem?_eq_getElem (by rw [hl]; exact h0)]
    intro e
    exact h45 (Option.some.inj e)
  have hhd := Lib.hid hhead
  have htl := Lib.hid (show s.data.toList = behind s.data.toList by unfold behind; rw [if_neg hhead])
  have htl2 := Lib.hid hl
  clear hhead hl h45
  by_cases hB : k + 1 < s.size
  · have hB' : (k : Int) + 1 < (s.size : Int) := by omega
    have hA' : ¬ (s.size : Int) < 1 := by omega
    go_enter Tryz.func95, Tryz.ntmps95
    go_wp2
    go_ret2
    refine ⟨.inr ⟨rfl, no_short (k := k) (.inr ?_)⟩, Below.refl _ _⟩
    rw [← htl.out, htl2.out]
    omega
  · have hB' : ¬ (k : Int) + 1 < (s.size : Int) := by omega
    have hA' : ¬ (s.size : Int) < 1 := by omega
    have htb : s.size ≤ k + 1 := by omega
    go_enter Tryz.func95, Tryz.ntmps95
    go_wp2
    clear hA' hB' hB h45'
    go_loop [8, 9] (fun n i => ∃ j : Nat, j ≤ s.size ∧ i = .int .i64 j ∧ n = .int .i64 (valD (s.data.toList.take j)) ∧ ∀ i, (h : i < s.data.toList.length) → i < j → IsDig s.data.toList[i]) (fun _ i => s.size - (intOf i).toNat)
    case atStart => exact ⟨0, Nat.zero_le _, rfl, rfl, fun i h hi => absurd hi (by omega)⟩
    case round =>
      obtain ⟨j, hj, rfl, rfl, hdig⟩ := hrel
      have hD := Lib.hid hdig
      have hbd := valD_lt s.data.toList j (by rw [htl2.out]; exact hj) hdig
      have hbd2 : (10 : Nat) ^ j ≤ 10 ^ 12 := Nat.pow_le_pow_right (by omega) (by omega)
      clear hdig
      have hv : valD (s.data.toList.take j) < 1000000000000 := by omega
      have hpow := Lib.hid hbd
      clear hbd hbd2
      by_cases hlt : j < s.size
      · have hltI : (j : Int) < (s.size : Int) := by omega
        have hget : s.data.toList[j]'(by rw [htl2.out]; exact hlt) = s[j] := by rw [Array.getElem_toList]; rfl
        have hstep := Lib.hid (valD_take s.data.toList j (by rw [htl2.out]; exact hlt))
        have hG := Lib.hid hget
        clear hget
        by_cases h48 : (s[j].toNat : Int) < 48
        · go_wp2
          go_ret2
          refine ⟨.inr ⟨rfl, fun n _ => no_digit (c := s[j]) (by rw [← htl.out, ← hG.out]; exact List.getElem_mem _) (by unfold IsDig; omega) n⟩, Below.refl _ _⟩
        · by_cases h57 : (57 : Int) < s[j].toNat
          · go_wp2
            go_ret2
            refine ⟨.inr ⟨rfl, fun n _ => no_digit (c := s[j]) (by rw [← htl.out, ← hG.out]; exact List.getElem_mem _) (by unfold IsDig; omega) n⟩, Below.refl _ _⟩
          · go_wp2
            go_round
            case rel =>
              refine ⟨j + 1, by omega, by go_num, ?_, fun i h hi => ?_⟩
              · rw [hstep.out, hG.out]
                congr 1
                omega
              · by_cases e : i = j
                · subst e
                  rw [hG.out]
                  unfold IsDig
                  omega
                · exact hD.out i h (by omega)
            case measure => simp [intOf]; omega
      · have hje : j = s.size := by omega
        have hval : valD (s.data.toList.take j) = valD (behind s.data.toList) := by
          rw [← htl.out, hje, ← htl2.out, List.take_length]
        have hsg : ((valD (s.data.toList.take j) : Nat) : Int) = sign s.data.toList (valD (behind s.data.toList)) := by
          rw [← hval]
          unfold sign
          rw [if_neg hhd.out]
        have hlt12 : valD (s.data.toList.take j) < 10 ^ (k + 1) := Nat.lt_of_lt_of_le hpow.out (Nat.pow_le_pow_right (by omega) (by omega))
        have hL12 := Lib.hid hlt12
        have hS := Lib.hid hsg
        clear hval hsg hlt12 hpow
        generalize valD (s.data.toList.take j) = v at *
        have hv2 : (v : Int) < 1000000000000 := by omega
        have hfm := Lib.hid (specFormatInt_any ((v : Int)) w (by omega) (by omega))
        go_wp2_with fail
        refine hfm.out.mono ?_
        rintro e w1 ⟨rfl, hb1⟩
        by_cases heq : s.data.toList = Lib.itoa ((v : Int))
        · have hq : (Lib.itoa ((v : Int)) == s.toList) = true := by rw [beq_iff_eq, ByteArray.toList_eq]; exact heq.symm
          have HQ := Lib.hid heq
          clear heq
          go_wp2
          go_ret2
          exact ⟨.inl ⟨_, rfl, HQ.out, by have := hL12.out; omega⟩, hb1⟩
        · have hq : (Lib.itoa ((v : Int)) == s.toList) = false := by rw [beq_eq_false_iff_ne, ByteArray.toList_eq]; exact fun e => heq e.symm
          have HQ := Lib.hid heq
          clear heq
          go_wp2
          go_ret2
          refine ⟨.inr ⟨rfl, fun n _ hn => HQ.out ?_⟩, hb1⟩
          have := the_number n hn
          rw [← hS.out] at this
          rw [← this]
          exact hn

set_option maxHeartbeats 400000 in
theorem read_empty (s : ByteArray) (k : Nat) (w : World) (h0 : s.size = 0) :
    Calls Tryz.prog 95 #[.string s, .int .i64 (k + 1)] w (ReadPost s.data.toList k w) := by
  have hl : s.data.toList = [] := List.eq_nil_of_length_eq_zero (by simpa using h0)
  have e : s = ⟨#[]⟩ := by
    cases s
    simp at hl
    rw [hl]
  subst e
  go_enter Tryz.func95, Tryz.ntmps95
  go_wp2
  go_ret2
  exact ⟨.inr ⟨rfl, no_short (k := k) (.inl (by decide))⟩, Below.refl _ _⟩

theorem read_any (s : ByteArray) (k : Nat) (w : World) (hs : s.size ≤ 1048576) (hk : k ≤ 11) :
    Calls Tryz.prog 95 #[.string s, .int .i64 (k + 1)] w (ReadPost s.data.toList k w) := by
  by_cases h0 : s.size = 0
  · exact read_empty s k w h0
  · by_cases h45 : s[0]'(by omega) = 45
    · exact read_neg s k w hs hk (by omega) h45
    · exact read_pos s k w hs hk (by omega) h45

end Go.Proofs.YtceclhndagoddaaGreatDoor
end

section
namespace Go.Proofs.YtceclhndagoddaaGreatDoor
open Go.RowKit

/-- What the model answers. -/
def SpecPostInt (l : List UInt8) (w : World) (e : Ending) (w' : World) : Prop :=
  ((∃ n : Int, e = .returned (.tuple #[.int .i64 n, .bool true]) ∧ l = Lib.itoa n ∧ -999999999999 ≤ n ∧ n ≤ 999999999999) ∨
    (e = .returned (.tuple #[.int .i64 0, .bool false]) ∧ ∀ n : Int, -999999999999 ≤ n → n ≤ 999999999999 → l ≠ Lib.itoa n)) ∧ Below w.heap.size w w'

set_option maxHeartbeats 400000 in
theorem specParseInt_any (s : ByteArray) (w : World) (hs : s.size ≤ 1048576) :
    Calls Tryz.prog 83 #[.string s] w (SpecPostInt s.data.toList w) := by
  have hr := Lib.hid (read_any s 11 w hs (by omega))
  go_enter Tryz.func83, Tryz.ntmps83
  go_wp2_with fail
  refine hr.out.mono ?_
  rintro e w1 ⟨⟨n, rfl, hn, hb⟩ | ⟨rfl, hno⟩, hb1⟩
  · have H := Lib.hid hn
    clear hn
    go_wp2
    go_ret2
    exact ⟨.inl ⟨n, rfl, H.out, by omega, by omega⟩, hb1⟩
  · have H := Lib.hid hno
    clear hno
    go_wp2
    go_ret2
    exact ⟨.inr ⟨rfl, fun n h0 h1 => H.out n (by omega)⟩, hb1⟩

end Go.Proofs.YtceclhndagoddaaGreatDoor
end
