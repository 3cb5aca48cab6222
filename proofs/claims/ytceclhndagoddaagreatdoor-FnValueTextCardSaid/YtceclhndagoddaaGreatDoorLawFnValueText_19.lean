/- Lemmas: ReadVRec. -/
import Derived.Test.YtceclhndagoddaaGreatDoorLawFnValueText_18
import Derived.Deep.DeepCutAuto
import Derived.Deep.CutRange

namespace Go.Proofs.YtceclhndagoddaaGreatDoor.V
open Go.RowKit

/-- The state at the loop's head. -/
def AtRec (w : World) (p : Nat) (s : ByteArray) (i F : Nat) (f : List UInt8 → Option (Va × List UInt8)) (wr : World) : Prop :=
  ∃ (ls : List ByteArray) (ts : List Va) (L A : Option Addr) (lc ac : Nat) (xs : List Value) (vs : Nat → Value) (lo hi : Nat → Nat) (j fuel : Nat),
    Making w wr p (w.heap.size + 1) w.heap.size s j false (.int .i64 3) (.slice L ls.length lc) (.slice A ts.length ac) ∧ OwnVAt wr (w.heap.size + 1 + 1) L lc A ac (.mk 3 0 ⟨#[]⟩ ls ts) xs vs lo hi ∧
    ls.length = ts.length ∧ ls.length ≤ j ∧ Hid (rdLabE f F (restOf s i) = glue ls ts (rdLabE f fuel (restOf s j))) ∧ Hid ((restOf s j).length < fuel)

set_option maxHeartbeats 4000000 in
set_option maxRecDepth 100000 in
theorem readRec (n : Nat) (d : Int) (H : TypeOne n d) (w : World) (p i : Nat) (s : ByteArray) (hr : RdAt w p s i false) (hs : s.size ≤ 1048576) :
    Calls Tryz.prog 57 #[.pointer (some ⟨p, 0, none⟩), .int .i64 d] w fun e w' => (rdBoxE (rdVaS n) (restOf s i) = none ∧ Bads w p s e w') ∨ ∃ t r, rdBoxE (rdVaS n) (restOf s i) = some (t, r) ∧ Goods w p s t r e w' := by
  obtain ⟨i0, hi0, hz0, hz1, hz2⟩ := info_parts infoString
  obtain ⟨i1, hi1, hy0, hy1, hy2⟩ := info_parts infoValue
  have hpl := hr.lt
  obtain ⟨hb0, r0, q0, hs0⟩ := boxes2 w 27 27 #[.int .i64 0, .int .i64 0, .string ⟨#[]⟩, .slice none 0 0, .slice none 0 0] #[.int .i64 3, .int .i64 0, .string ⟨#[]⟩, .slice none 0 0, .slice none 0 0]
  have hM0 : Making w ((w.alloc (.cells #[.int .i64 0, .int .i64 0, .string ⟨#[]⟩, .slice none 0 0, .slice none 0 0] 27)).alloc (.cells #[.int .i64 3, .int .i64 0, .string ⟨#[]⟩, .slice none 0 0, .slice none 0 0] 27)) p (w.heap.size + 1) w.heap.size s i false (.int .i64 3) (.slice none 0 0) (.slice none 0 0) := ⟨hr.below hb0 hpl, q0, r0, grown_low (only_refl w (some p)) hb0 (Nat.le_refl _)⟩
  have hO0 : AtRec w p s i ((restOf s i).length + 1) (rdVaS n) ((w.alloc (.cells #[.int .i64 0, .int .i64 0, .string ⟨#[]⟩, .slice none 0 0, .slice none 0 0] 27)).alloc (.cells #[.int .i64 3, .int .i64 0, .string ⟨#[]⟩, .slice none 0 0, .slice none 0 0] 27)) := by
    obtain ⟨xs, vs, lo, hi, hO⟩ := OwnVAt.leaf ((w.alloc (.cells #[.int .i64 0, .int .i64 0, .string ⟨#[]⟩, .slice none 0 0, .slice none 0 0] 27)).alloc (.cells #[.int .i64 3, .int .i64 0, .string ⟨#[]⟩, .slice none 0 0, .slice none 0 0] 27)) (w.heap.size + 1 + 1) 3 0 ⟨#[]⟩ (by decide)
    exact ⟨[], [], none, none, 0, 0, xs, vs, lo, hi, i, _, hM0, hO, rfl, Nat.zero_le _, Lib.hid (glue_nil _).symm, Lib.hid (Nat.lt_succ_self _)⟩
  have HO := Lib.hid hO0
  have HB := Lib.hid H
  have hR : Hid (∀ (x : Option (List ByteArray × List Va × List UInt8)), rdLabE (rdVaS n) ((restOf s i).length + 1) (restOf s i) = x → rdBoxE (rdVaS n) (restOf s i) = match x with | none => none | some (ls, ts, q) => match eat 125 q with | none => none | some r => some (.mk 3 0 ⟨#[]⟩ ls ts, r)) := Lib.hid fun x hx => by
    rw [rdBoxE, hx]
    rcases x with _ | ⟨a, b, q⟩ <;> rfl
  have hzp : w.heap.size + 1 ≠ p := by omega
  have hrp : w.heap.size ≠ p := by omega
  have hzr : w.heap.size + 1 ≠ w.heap.size := by omega
  clear hr r0 q0 hM0 hO0 H hb0 hs0
  go_enter Tryz.func57, Tryz.ntmps57
  go_wp2
  go_loopw [] (fun wr => AtRec w p s i ((restOf s i).length + 1) (rdVaS n) wr) (fun wr => s.size - placeOf wr p)
  case atStart => exact HO.out
  case round =>
    obtain ⟨ls, ts, L, A, lc, ac, xs, vs, lo, hi, j, fuel, hM, hA, hlen, hlj, hmod, hfu⟩ := hrel
    have hpl2 := Lib.hid hM.rd.place
    have hjs := hM.rd.2
    have b2 : wr.cell? ⟨p, 2, none⟩ = some (.bool false) := Whole1.cell hM.rd.1 2
    have o1 : wr.cell? ⟨w.heap.size + 1, 3, none⟩ = some (.slice L ls.length lc) := hM.box.cell 3
    have HM := Lib.hid hM
    have HA := Lib.hid hA
    have HW := Lib.hid (word_any p j s false wr.drew (hM.rd.drewN 1) hs)
    have hzl := hM.box.lt
    have HLEN := Lib.hid hlen
    clear hM hA hlen
    go_upto_region 3 with fail
    go_cut [] from 12 to 31 (fun wx => ∃ (k : Nat) (L' : Option Addr) (lc' : Nat), Making w wx p (w.heap.size + 1) w.heap.size s k false (.int .i64 3) (.slice L' (ls ++ [s.extract j k]).length lc') (.slice A ts.length ac) ∧ OwnVAt wx (w.heap.size + 1 + 1) L' lc' A ac (.mk 3 0 ⟨#[]⟩ (ls ++ [s.extract j k]) ts) xs vs lo hi ∧ j ≤ k ∧ Hid ((restOf s j).dropWhile wordC = restOf s k ∧ (⟨((restOf s j).takeWhile wordC).toArray⟩ : ByteArray) = s.extract j k))
    case first =>
      go_region_law (first
        | (go_simp; go_at_call 59; (with_reducible refine HW.out.mono ?_); rintro e w4 ⟨k, hjk, ⟨rfl, hr4, hg4'⟩, hdw⟩; have hg4 := grown_drewR hg4'; clear hg4'; have hM4 := HM.out.read hr4 hg4 hzp hrp; have HM4 := Lib.hid hM4; have HA4 := Lib.hid ((HA.out.grown hg4 (by omega)).alloc (.cells #[.string (s.extract j k)] 9)); have hs4 := hg4.size; have y2 : w4.cell? ⟨w.heap.size + 1, 3, none⟩ = some (.slice L ls.length lc) := hM4.box.cell 3; have y3 : (w4.alloc (.cells #[.string (s.extract j k)] 9)).cell? ⟨w.heap.size + 1, 3, none⟩ = some (.slice L ls.length lc) := (((Below.refl w4.heap.size w4).alloc (Nat.le_refl _) (.cells #[.string (s.extract j k)] 9)).cell (p := ⟨w.heap.size + 1, 3, none⟩) hM4.box.lt).trans y2; have hN := news1 w4 9 (.string (s.extract j k)) rfl; have HD := Lib.hid hdw; have hks := hr4.2; have hes : (s.extract j k).size ≤ 1048576 := (by rw [ByteArray.size_extract]; omega); clear hM4 hr4 hdw)
        | (refine step_append_lies _ (by rfl) (.tmp 13) (.tmp 16) _ (by rfl) (w.heap.size + 1 + 1) 9 i0 (.string ⟨#[]⟩) 1 16 Tryz.underlying24 hi0 hz0 hz1 hz2 rfl (by decide) _ ls.length (strVals ls) (by rfl) HA4.out.row ⟨w4.heap.size, 0, none⟩ 1 1 [.string (s.extract j k)] (by rfl) rfl hN.1 hN.2 (by omega) (by unfold maxLen; omega) (by omega) (by simp; omega) (w4.heap.size + 1) (by simp) ?_; intro g cap w5 hown5 hg5 hat5 hlt5; have hlo := (fun q (hq : (Value.slice L ls.length lc).ownBlock = some q) => (HA4.out.row.lt q hq).1); have hB5 : Below (w.heap.size + 1 + 1) w4 w5 := ((Below.refl (w.heap.size + 1 + 1) w4).alloc (by omega) _).grown hg5 (by simp; omega) hlo; have hM5 := HM4.out.more hB5 (by omega) (by omega) (by omega) (by omega); have HM6 := Lib.hid (hM5.put1 (.slice (some ⟨g, 0, none⟩) (ls.length + 1) cap) hzp hzr (by omega)); have HA6 := Lib.hid ((HA4.out.label (s.extract j k) (by unfold maxLen; omega) hown5 hg5 (hat5.imp id (fun e => by simp; omega))).setz (i := 3) (.slice (some ⟨g, 0, none⟩) (ls.length + 1) cap)); have m1 : w5.cell? ⟨w.heap.size + 1, 3, none⟩ = some (.slice L ls.length lc) := hM5.box.cell 3; have n1 : w5.frozen? ⟨w.heap.size + 1, 3, none⟩ = false := hM5.box.free 3; clear hM5 hB5 hown5 hg5 hat5 hlo))
      all_goals go_wp2
      all_goals go_meet
      all_goals exact ⟨k, some ⟨g, 0, none⟩, cap, by rw [List.length_append, List.length_singleton]; exact HM6.out, HA6.out, hjk, HD⟩
    case rest =>
      obtain ⟨k, L', lc', hM, hA, hjk, HDW⟩ := hcut
      have hks := hM.rd.2
      have hlts : ts.length ≤ 1048576 := by have := HLEN.out; omega
      have HM := Lib.hid hM
      have HA := Lib.hid hA
      clear hM hA HW
      by_cases h58 : ∃ hk : k < s.size, s[k] = 61
      · obtain ⟨hk, hc⟩ := h58
        have HMU := Lib.hid (must_yes p k s 61 wc HM.out.rd hs hk hc)
        have HE := Lib.hid (eat_hit hk hc)
        clear hc
        go_wp2_with fail
        refine HMU.out.mono ?_
        rintro e w4 ⟨rfl, hr4, hg4⟩
        have HM4 := Lib.hid (HM.out.read hr4 hg4 hzp hrp)
        have HA4 := Lib.hid (HA.out.grown hg4 (by omega))
        clear hr4 hg4 HM HA
        cases hty : rdVaS n (restOf s (k + 1)) with
        | none =>
          have HNONE := Lib.hid (hR.out _ (hmod.out.trans (round_type (ls := ls) (ts := ts) HDW.out.1 hfu.out HE.out hty)))
          have hbad : false = true ∨ rdVaS n (restOf s (k + 1)) = none := Or.inr hty
          clear hty
          generalize hk4 : k + 1 = k4 at *
          have HTB := Lib.hid (HB.out.bad w4.drew p k4 s false (HM4.out.rd.drewN 1) hs hbad)
          have o2 : w4.cell? ⟨w.heap.size + 1, 4, none⟩ = some (.slice A ts.length ac) := HM4.out.box.cell 4
          have hs4 := HM4.out.box.lt
          clear hbad
          go_upto_region 5 with fail
          go_cut [] from 12 to 31 (fun wx => ∃ (A' : Option Addr) (m' ac' j' : Nat), Making w wx p (w.heap.size + 1) w.heap.size s j' true (.int .i64 3) (.slice L' (ls ++ [s.extract j k]).length lc') (.slice A' m' ac'))
          case first =>
            go_region_law (first
              | (go_simp; go_at_call 26; (with_reducible refine HTB.out.mono ?_); rintro e w5 ⟨x1, x2, nm1, M1, n1, c1, M2, n2, c2, j', rfl, hr5, hg5'⟩; have hg5 := grown_drewR hg5'; clear hg5'; have hM5 := HM4.out.read hr5 hg5 hzp hrp; have HM5 := Lib.hid hM5; have HA5 := Lib.hid ((HA4.out.grown hg5 (by omega)).alloc (.cells #[.int .i64 x1, .int .i64 x2, .string nm1, .slice M1 n1 c1, .slice M2 n2 c2] 27)); have hs5 := hg5.size; have y2 : w5.cell? ⟨w.heap.size + 1, 4, none⟩ = some (.slice A ts.length ac) := hM5.box.cell 4; have y3 : (w5.alloc (.cells #[.int .i64 x1, .int .i64 x2, .string nm1, .slice M1 n1 c1, .slice M2 n2 c2] 27)).cell? ⟨w.heap.size + 1, 4, none⟩ = some (.slice A ts.length ac) := (((Below.refl w5.heap.size w5).alloc (Nat.le_refl _) (.cells #[.int .i64 x1, .int .i64 x2, .string nm1, .slice M1 n1 c1, .slice M2 n2 c2] 27)).cell (p := ⟨w.heap.size + 1, 4, none⟩) hM5.box.lt).trans y2; have hN := news5 w5 27 (.int .i64 x1) (.int .i64 x2) (.string nm1) (.slice M1 n1 c1) (.slice M2 n2 c2); clear hM5)
              | (refine step_append_lies _ (by rfl) (.tmp 22) (.tmp 26) _ (by rfl) (w.heap.size + 1 + 1) 27 i1 (.agg #[.int .i64 0, .int .i64 0, .string ⟨#[]⟩, .slice none 0 0, .slice none 0 0]) 5 80 Tryz.underlying25 hi1 hy0 hy1 hy2 rfl (by decide) _ ts.length xs (by rfl) HA5.out.parts.own ⟨w5.heap.size, 0, none⟩ 1 1 [.int .i64 x1, .int .i64 x2, .string nm1, .slice M1 n1 c1, .slice M2 n2 c2] (by rfl) rfl hN.1 hN.2 (by omega) (by unfold maxLen; omega) (by omega) (by simp; omega) (w5.heap.size + 1) (by simp) ?_; intro g cap w6 hown6 hg6 hat6 hlt6; have hlo := (fun q (hq : (Value.slice A ts.length ac).ownBlock = some q) => (HA5.out.parts.own.lt q hq).1); have hB6 : Below (w.heap.size + 1 + 1) w5 w6 := ((Below.refl (w.heap.size + 1 + 1) w5).alloc (by omega) _).grown hg6 (by simp; omega) hlo; have hM6 := HM5.out.more hB6 (by omega) (by omega) (by omega) (by omega); have HM7 := Lib.hid (hM6.put2 (.slice (some ⟨g, 0, none⟩) (ts.length + 1) cap) hzp hzr (by omega)); have m1 : w6.cell? ⟨w.heap.size + 1, 4, none⟩ = some (.slice A ts.length ac) := hM6.box.cell 4; have n1 : w6.frozen? ⟨w.heap.size + 1, 4, none⟩ = false := hM6.box.free 4; clear hM6 hB6 hown6 hg6 hat6 hlo))
            all_goals go_wp2
            all_goals go_meet
            all_goals exact ⟨some ⟨g, 0, none⟩, ts.length + 1, cap, j', HM7.out⟩
          case rest =>
            obtain ⟨A', m', ac', j9, hM7⟩ := hcut
            have HT7 := Lib.hid (take_bad p j9 s 44 wc hM7.rd)
            have HM7 := Lib.hid hM7
            clear hM7 HTB HA4
            go_wp2_with fail
            refine HT7.out.mono ?_
            rintro e w8 ⟨rfl, hr8, hg8⟩
            have HM8 := Lib.hid (HM7.out.read hr8 hg8 hzp hrp)
            have HMU := Lib.hid (must_no p j9 s true 125 w8 hr8 hs (Or.inl rfl))
            clear hr8 hg8
            go_wp2_with fail
            refine HMU.out.mono ?_
            rintro e w9 ⟨rfl, hr9, hg9⟩
            have HM9 := Lib.hid (HM8.out.read hr9 hg9 hzp hrp)
            clear hr9 hg9
            have d0 : w9.cell? ⟨w.heap.size + 1, 0, none⟩ = some (.int .i64 3) := HM9.out.box.cell 0
            have d1 : w9.cell? ⟨w.heap.size + 1, 1, none⟩ = some (.int .i64 0) := HM9.out.box.cell 1
            have d2 : w9.cell? ⟨w.heap.size + 1, 2, none⟩ = some (.string ⟨#[]⟩) := HM9.out.box.cell 2
            have d3 : w9.cell? ⟨w.heap.size + 1, 3, none⟩ = some (.slice L' (ls ++ [s.extract j k]).length lc') := HM9.out.box.cell 3
            have d4 : w9.cell? ⟨w.heap.size + 1, 4, none⟩ = some (.slice A' m' ac') := HM9.out.box.cell 4
            have e0 : w9.cell? ⟨w.heap.size, 0, none⟩ = some (.int .i64 0) := HM9.out.zero.cell 0
            have f0 : w9.frozen? ⟨w.heap.size, 0, none⟩ = false := HM9.out.zero.free 0
            have e1 : w9.cell? ⟨w.heap.size, 1, none⟩ = some (.int .i64 0) := HM9.out.zero.cell 1
            have f1 : w9.frozen? ⟨w.heap.size, 1, none⟩ = false := HM9.out.zero.free 1
            have e2 : w9.cell? ⟨w.heap.size, 2, none⟩ = some (.string ⟨#[]⟩) := HM9.out.zero.cell 2
            have f2 : w9.frozen? ⟨w.heap.size, 2, none⟩ = false := HM9.out.zero.free 2
            have e3 : w9.cell? ⟨w.heap.size, 3, none⟩ = some (.slice none 0 0) := HM9.out.zero.cell 3
            have f3 : w9.frozen? ⟨w.heap.size, 3, none⟩ = false := HM9.out.zero.free 3
            have e4 : w9.cell? ⟨w.heap.size, 4, none⟩ = some (.slice none 0 0) := HM9.out.zero.cell 4
            have f4 : w9.frozen? ⟨w.heap.size, 4, none⟩ = false := HM9.out.zero.free 4
            have HF := Lib.hid (fun a b c d e => box_grown5 HM9.out.grown (Nat.le_refl w.heap.size) a b c d e)
            have HR := Lib.hid (fun a b c d e => HM9.out.rd.block (w' := (((((w9.setCell ⟨w.heap.size, 0, none⟩ a).setCell ⟨w.heap.size, 1, none⟩ b).setCell ⟨w.heap.size, 2, none⟩ c).setCell ⟨w.heap.size, 3, none⟩ d).setCell ⟨w.heap.size, 4, none⟩ e)) (set5_keep _ _ _ _ _ _ _ _ (fun e => hrp e.symm)))
            go_wp2
            exact bodyPost_ret (v := .agg #[.int .i64 3, .int .i64 0, .string ⟨#[]⟩, .slice L' (ls ++ [s.extract j k]).length lc', .slice A' m' ac']) (by simp [results, Tryz.results57, go_sem, e0, e1, e2, e3, e4]) rfl (Or.inl ⟨HNONE.out, 3, 0, ⟨#[]⟩, L', _, lc', A', m', ac', j9, rfl, HR.out _ _ _ _ _, HF.out _ _ _ _ _⟩)
        | some tr =>
          obtain ⟨t, r⟩ := tr
          have HTG := Lib.hid (HB.out.good w4.drew p (k + 1) s t r (HM4.out.rd.drewN 1) hs hty)
          have o2 : w4.cell? ⟨w.heap.size + 1, 4, none⟩ = some (.slice A ts.length ac) := HM4.out.box.cell 4
          have hs4 := HM4.out.box.lt
          have HTY := Lib.hid hty
          clear hty
          go_upto_region 5 with fail
          go_cut [] from 12 to 31 (fun wx => ∃ (A' : Option Addr) (ac' j' : Nat) (xs' : List Value) (vs' : Nat → Value) (lo' hi' : Nat → Nat), Making w wx p (w.heap.size + 1) w.heap.size s j' false (.int .i64 3) (.slice L' (ls ++ [s.extract j k]).length lc') (.slice A' (ts ++ [t]).length ac') ∧ OwnVAt wx (w.heap.size + 1 + 1) L' lc' A' ac' (.mk 3 0 ⟨#[]⟩ (ls ++ [s.extract j k]) (ts ++ [t])) xs' vs' lo' hi' ∧ r = restOf s j')
          case first =>
            go_region_law (first
              | (go_simp; go_at_call 26; (with_reducible refine HTG.out.mono ?_); rintro e w5 ⟨v1, j', rfl, hrr, hr5, hO5, hg5'⟩; have hI5 := hO5.owned; obtain ⟨T1, U1, T2, U2, rfl⟩ := hO5.open; have HRR := Lib.hid hrr; clear hrr hO5; have hg5 := grown_drewR hg5'; clear hg5'; have hM5 := HM4.out.read hr5 hg5 hzp hrp; have HM5 := Lib.hid hM5; have HA5 := Lib.hid ((HA4.out.grown hg5 (by omega)).alloc (.cells #[.int .i64 t.kind, .int .i64 t.num, .string t.name, .slice T1 t.labels.length U1, .slice T2 t.args.length U2] 27)); have hs5 := hg5.size; have y2 : w5.cell? ⟨w.heap.size + 1, 4, none⟩ = some (.slice A ts.length ac) := hM5.box.cell 4; have y3 : (w5.alloc (.cells #[.int .i64 t.kind, .int .i64 t.num, .string t.name, .slice T1 t.labels.length U1, .slice T2 t.args.length U2] 27)).cell? ⟨w.heap.size + 1, 4, none⟩ = some (.slice A ts.length ac) := (((Below.refl w5.heap.size w5).alloc (Nat.le_refl _) (.cells #[.int .i64 t.kind, .int .i64 t.num, .string t.name, .slice T1 t.labels.length U1, .slice T2 t.args.length U2] 27)).cell (p := ⟨w.heap.size + 1, 4, none⟩) hM5.box.lt).trans y2; have hN := news5 w5 27 (.int .i64 t.kind) (.int .i64 t.num) (.string t.name) (.slice T1 t.labels.length U1) (.slice T2 t.args.length U2); have HI5 := Lib.hid hI5; obtain ⟨w4', ht1, ht2, ht3⟩ := turned HM4.out.rd hr5 hg5; have HT1 := Lib.hid (HA4.out.grown ht1 (by omega)); have HT2 := Lib.hid ht2; have HT3 := Lib.hid ht3; clear ht1 ht2 ht3 hI5; clear hM5)
              | (refine step_append_lies _ (by rfl) (.tmp 22) (.tmp 26) _ (by rfl) (w.heap.size + 1 + 1) 27 i1 (.agg #[.int .i64 0, .int .i64 0, .string ⟨#[]⟩, .slice none 0 0, .slice none 0 0]) 5 80 Tryz.underlying25 hi1 hy0 hy1 hy2 rfl (by decide) _ ts.length xs (by rfl) HA5.out.parts.own ⟨w5.heap.size, 0, none⟩ 1 1 [.int .i64 t.kind, .int .i64 t.num, .string t.name, .slice T1 t.labels.length U1, .slice T2 t.args.length U2] (by rfl) rfl hN.1 hN.2 (by omega) (by unfold maxLen; omega) (by omega) (by simp; omega) (w5.heap.size + 1) (by simp) ?_; intro g cap w6 hown6 hg6 hat6 hlt6; have hlo := (fun q (hq : (Value.slice A ts.length ac).ownBlock = some q) => (HA5.out.parts.own.lt q hq).1); have hB6 : Below (w.heap.size + 1 + 1) w5 w6 := ((Below.refl (w.heap.size + 1 + 1) w5).alloc (by omega) _).grown hg6 (by simp; omega) hlo; have hM6 := HM5.out.more hB6 (by omega) (by omega) (by omega) (by omega); have HM7 := Lib.hid (hM6.put2 (.slice (some ⟨g, 0, none⟩) (ts.length + 1) cap) hzp hzr (by omega)); have HA7 := Lib.hid ((HT1.out.arg t (by rw [HT2.out]; exact HT3.out) (by rw [HT2.out]; omega) (by unfold maxLen; show ts.length + 1 ≤ _; omega) (by rw [HT2.out]; exact HI5.out) hown6 hg6 hat6).setz (i := 4) (.slice (some ⟨g, 0, none⟩) (ts.length + 1) cap)); have m1 : w6.cell? ⟨w.heap.size + 1, 4, none⟩ = some (.slice A ts.length ac) := hM6.box.cell 4; have n1 : w6.frozen? ⟨w.heap.size + 1, 4, none⟩ = false := hM6.box.free 4; clear hM6 hB6 hown6 hg6 hat6 hlo))
            all_goals go_wp2
            all_goals go_meet
            all_goals exact ⟨some ⟨g, 0, none⟩, cap, j', _, _, _, _, by rw [show (ts ++ [t]).length = ts.length + 1 by simp]; exact HM7.out, HA7.out, HRR.out⟩
          case rest =>
            obtain ⟨A', ac', j9, xs', vs', lo', hi', hM7, hA7, hrr⟩ := hcut
            have hsd := rdVaS_pos n _ _ _ HTY.out
            have hj9 : k + 1 ≤ j9 := by
              have h1 := hsd
              rw [hrr, restOf_len, restOf_len] at h1
              have := hM7.rd.2
              omega
            subst hrr
            have HM7 := Lib.hid hM7
            have HA7 := Lib.hid hA7
            have hj92 := hM7.rd.2
            clear hM7 hA7 HTG HA4 hsd
            by_cases h44 : ∃ hj : j9 < s.size, s[j9] = 44
            · obtain ⟨hj, hc44⟩ := h44
              have HT7 := Lib.hid (take_yes p j9 s 44 wc HM7.out.rd hs hj hc44)
              have hmod2 := Lib.hid (hmod.out.trans (round_more (ls := ls) (ts := ts) HDW.out.1 HDW.out.2 hfu.out HE.out HTY.out (eat_hit hj hc44)))
              clear hc44
              go_wp2_with fail
              refine HT7.out.mono ?_
              rintro e w8 ⟨rfl, hr8, hg8⟩
              have HM8 := Lib.hid (HM7.out.read hr8 hg8 hzp hrp)
              have HA8 := Lib.hid (HA7.out.grown hg8 (by omega))
              have HP8 := Lib.hid hr8.place
              clear hr8 hg8
              go_wp2
              go_roundw
              case rel => exact ⟨ls ++ [s.extract j k], ts ++ [t], L', A', lc', ac', xs', vs', lo', hi', j9 + 1, fuel - 1, HM8.out, HA8.out, by rw [List.length_append, List.length_append, HLEN.out]; rfl, by rw [List.length_append, List.length_singleton]; omega, hmod2, Lib.hid (by have := hfu.out; rw [restOf_len] at this ⊢; omega)⟩
              case measure =>
                rw [HP8.out, hpl2.out]
                omega
            · have HT7 := Lib.hid (take_other p j9 s 44 wc HM7.out.rd hs (eat_miss h44))
              have hmod2 := Lib.hid (hmod.out.trans (round_last (ls := ls) (ts := ts) HDW.out.1 HDW.out.2 hfu.out HE.out HTY.out (eat_miss h44)))
              clear h44
              go_wp2_with fail
              refine HT7.out.mono ?_
              rintro e w8 ⟨rfl, hr8, hg8⟩
              have HM8 := Lib.hid (HM7.out.read hr8 hg8 hzp hrp)
              have HA8 := Lib.hid (HA7.out.grown hg8 (by omega))
              by_cases hend : ∃ hj : j9 < s.size, s[j9] = 125
              · obtain ⟨hj, hce⟩ := hend
                have HSOME := Lib.hid ((hR.out _ hmod2.out).trans (by simp only [eat_hit hj hce] : _ = some (Va.mk 3 0 ⟨#[]⟩ (ls ++ [s.extract j k]) (ts ++ [t]), restOf s (j9 + 1))))
                have HMU := Lib.hid (must_yes p j9 s 125 w8 hr8 hs hj hce)
                clear hr8 hg8 hce
                go_wp2_with fail
                refine HMU.out.mono ?_
                rintro e w9 ⟨rfl, hr9, hg9⟩
                have HM9 := Lib.hid (HM8.out.read hr9 hg9 hzp hrp)
                have HA9 := Lib.hid (HA8.out.grown hg9 (by omega))
                clear hr9 hg9
                have d0 : w9.cell? ⟨w.heap.size + 1, 0, none⟩ = some (.int .i64 3) := HM9.out.box.cell 0
                have d1 : w9.cell? ⟨w.heap.size + 1, 1, none⟩ = some (.int .i64 0) := HM9.out.box.cell 1
                have d2 : w9.cell? ⟨w.heap.size + 1, 2, none⟩ = some (.string ⟨#[]⟩) := HM9.out.box.cell 2
                have d3 : w9.cell? ⟨w.heap.size + 1, 3, none⟩ = some (.slice L' (ls ++ [s.extract j k]).length lc') := HM9.out.box.cell 3
                have d4 : w9.cell? ⟨w.heap.size + 1, 4, none⟩ = some (.slice A' (ts ++ [t]).length ac') := HM9.out.box.cell 4
                have e0 : w9.cell? ⟨w.heap.size, 0, none⟩ = some (.int .i64 0) := HM9.out.zero.cell 0
                have f0 : w9.frozen? ⟨w.heap.size, 0, none⟩ = false := HM9.out.zero.free 0
                have e1 : w9.cell? ⟨w.heap.size, 1, none⟩ = some (.int .i64 0) := HM9.out.zero.cell 1
                have f1 : w9.frozen? ⟨w.heap.size, 1, none⟩ = false := HM9.out.zero.free 1
                have e2 : w9.cell? ⟨w.heap.size, 2, none⟩ = some (.string ⟨#[]⟩) := HM9.out.zero.cell 2
                have f2 : w9.frozen? ⟨w.heap.size, 2, none⟩ = false := HM9.out.zero.free 2
                have e3 : w9.cell? ⟨w.heap.size, 3, none⟩ = some (.slice none 0 0) := HM9.out.zero.cell 3
                have f3 : w9.frozen? ⟨w.heap.size, 3, none⟩ = false := HM9.out.zero.free 3
                have e4 : w9.cell? ⟨w.heap.size, 4, none⟩ = some (.slice none 0 0) := HM9.out.zero.cell 4
                have f4 : w9.frozen? ⟨w.heap.size, 4, none⟩ = false := HM9.out.zero.free 4
                have HF := Lib.hid (fun a b c d e => box_grown5 HM9.out.grown (Nat.le_refl w.heap.size) a b c d e)
                have HR := Lib.hid (fun a b c d e => HM9.out.rd.block (w' := (((((w9.setCell ⟨w.heap.size, 0, none⟩ a).setCell ⟨w.heap.size, 1, none⟩ b).setCell ⟨w.heap.size, 2, none⟩ c).setCell ⟨w.heap.size, 3, none⟩ d).setCell ⟨w.heap.size, 4, none⟩ e)) (set5_keep _ _ _ _ _ _ _ _ (fun e => hrp e.symm)))
                have HK : Hid (∀ a b c d e g, g ≠ w.heap.size → (((((w9.setCell ⟨w.heap.size, 0, none⟩ a).setCell ⟨w.heap.size, 1, none⟩ b).setCell ⟨w.heap.size, 2, none⟩ c).setCell ⟨w.heap.size, 3, none⟩ d).setCell ⟨w.heap.size, 4, none⟩ e).heap[g]? = w9.heap[g]?) := Lib.hid fun a b c d e g hg => set5_keep _ _ _ _ _ _ _ _ hg
                go_wp2
                exact bodyPost_ret (v := .agg #[.int .i64 3, .int .i64 0, .string ⟨#[]⟩, .slice L' (ls ++ [s.extract j k]).length lc', .slice A' (ts ++ [t]).length ac']) (by simp [results, Tryz.results57, go_sem, e0, e1, e2, e3, e4]) rfl (Or.inr ⟨_, _, HSOME.out, _, j9 + 1, rfl, rfl, HR.out _ _ _ _ _, (HA9.out.keep (by simp [World.setCell]) (fun g hg _ => HK.out _ _ _ _ _ g (by have := (HA9.out.row.lt g hg).1; omega)) (fun g hg _ => HK.out _ _ _ _ _ g (by have := (HA9.out.parts.own.lt g hg).1; omega)) (fun i' hi' b hb _ => HK.out _ _ _ _ _ b (by have := (HA9.out.parts.low i' hi').1; have := hb.1; omega))).own.base (by omega), HF.out _ _ _ _ _⟩)
              · have HNONE := Lib.hid ((hR.out _ hmod2.out).trans (by simp only [eat_miss hend] : _ = none))
                have HMU := Lib.hid (must_no p j9 s false 125 w8 hr8 hs (Or.inr (eat_miss hend)))
                clear hr8 hg8 hend
                go_wp2_with fail
                refine HMU.out.mono ?_
                rintro e w9 ⟨rfl, hr9, hg9⟩
                have HM9 := Lib.hid (HM8.out.read hr9 hg9 hzp hrp)
                clear hr9 hg9
                have d0 : w9.cell? ⟨w.heap.size + 1, 0, none⟩ = some (.int .i64 3) := HM9.out.box.cell 0
                have d1 : w9.cell? ⟨w.heap.size + 1, 1, none⟩ = some (.int .i64 0) := HM9.out.box.cell 1
                have d2 : w9.cell? ⟨w.heap.size + 1, 2, none⟩ = some (.string ⟨#[]⟩) := HM9.out.box.cell 2
                have d3 : w9.cell? ⟨w.heap.size + 1, 3, none⟩ = some (.slice L' (ls ++ [s.extract j k]).length lc') := HM9.out.box.cell 3
                have d4 : w9.cell? ⟨w.heap.size + 1, 4, none⟩ = some (.slice A' (ts ++ [t]).length ac') := HM9.out.box.cell 4
                have e0 : w9.cell? ⟨w.heap.size, 0, none⟩ = some (.int .i64 0) := HM9.out.zero.cell 0
                have f0 : w9.frozen? ⟨w.heap.size, 0, none⟩ = false := HM9.out.zero.free 0
                have e1 : w9.cell? ⟨w.heap.size, 1, none⟩ = some (.int .i64 0) := HM9.out.zero.cell 1
                have f1 : w9.frozen? ⟨w.heap.size, 1, none⟩ = false := HM9.out.zero.free 1
                have e2 : w9.cell? ⟨w.heap.size, 2, none⟩ = some (.string ⟨#[]⟩) := HM9.out.zero.cell 2
                have f2 : w9.frozen? ⟨w.heap.size, 2, none⟩ = false := HM9.out.zero.free 2
                have e3 : w9.cell? ⟨w.heap.size, 3, none⟩ = some (.slice none 0 0) := HM9.out.zero.cell 3
                have f3 : w9.frozen? ⟨w.heap.size, 3, none⟩ = false := HM9.out.zero.free 3
                have e4 : w9.cell? ⟨w.heap.size, 4, none⟩ = some (.slice none 0 0) := HM9.out.zero.cell 4
                have f4 : w9.frozen? ⟨w.heap.size, 4, none⟩ = false := HM9.out.zero.free 4
                have HF := Lib.hid (fun a b c d e => box_grown5 HM9.out.grown (Nat.le_refl w.heap.size) a b c d e)
                have HR := Lib.hid (fun a b c d e => HM9.out.rd.block (w' := (((((w9.setCell ⟨w.heap.size, 0, none⟩ a).setCell ⟨w.heap.size, 1, none⟩ b).setCell ⟨w.heap.size, 2, none⟩ c).setCell ⟨w.heap.size, 3, none⟩ d).setCell ⟨w.heap.size, 4, none⟩ e)) (set5_keep _ _ _ _ _ _ _ _ (fun e => hrp e.symm)))
                go_wp2
                exact bodyPost_ret (v := .agg #[.int .i64 3, .int .i64 0, .string ⟨#[]⟩, .slice L' (ls ++ [s.extract j k]).length lc', .slice A' (ts ++ [t]).length ac']) (by simp [results, Tryz.results57, go_sem, e0, e1, e2, e3, e4]) rfl (Or.inl ⟨HNONE.out, 3, 0, ⟨#[]⟩, L', _, lc', A', _, ac', j9, rfl, HR.out _ _ _ _ _, HF.out _ _ _ _ _⟩)
      · have HMU := Lib.hid (must_no p k s false 61 wc HM.out.rd hs (Or.inr (eat_miss h58)))
        have HNONE := Lib.hid (hR.out _ (hmod.out.trans (round_colon (ls := ls) (ts := ts) HDW.out.1 hfu.out (eat_miss h58))))
        clear h58
        go_wp2_with fail
        refine HMU.out.mono ?_
        rintro e w4 ⟨rfl, hr4, hg4⟩
        have HM4 := Lib.hid (HM.out.read hr4 hg4 hzp hrp)
        have HA4 := Lib.hid (HA.out.grown hg4 (by omega))
        clear hr4 hg4 HM HA
        have hbad : true = true ∨ rdVaS n (restOf s k) = none := Or.inl rfl
        have HTB := Lib.hid (HB.out.bad w4.drew p k s true (HM4.out.rd.drewN 1) hs hbad)
        have o2 : w4.cell? ⟨w.heap.size + 1, 4, none⟩ = some (.slice A ts.length ac) := HM4.out.box.cell 4
        have hs4 := HM4.out.box.lt
        clear hbad
        go_upto_region 5 with fail
        go_cut [] from 12 to 31 (fun wx => ∃ (A' : Option Addr) (m' ac' j' : Nat), Making w wx p (w.heap.size + 1) w.heap.size s j' true (.int .i64 3) (.slice L' (ls ++ [s.extract j k]).length lc') (.slice A' m' ac'))
        case first =>
          go_region_law (first
            | (go_simp; go_at_call 26; (with_reducible refine HTB.out.mono ?_); rintro e w5 ⟨x1, x2, nm1, M1, n1, c1, M2, n2, c2, j', rfl, hr5, hg5'⟩; have hg5 := grown_drewR hg5'; clear hg5'; have hM5 := HM4.out.read hr5 hg5 hzp hrp; have HM5 := Lib.hid hM5; have HA5 := Lib.hid ((HA4.out.grown hg5 (by omega)).alloc (.cells #[.int .i64 x1, .int .i64 x2, .string nm1, .slice M1 n1 c1, .slice M2 n2 c2] 27)); have hs5 := hg5.size; have y2 : w5.cell? ⟨w.heap.size + 1, 4, none⟩ = some (.slice A ts.length ac) := hM5.box.cell 4; have y3 : (w5.alloc (.cells #[.int .i64 x1, .int .i64 x2, .string nm1, .slice M1 n1 c1, .slice M2 n2 c2] 27)).cell? ⟨w.heap.size + 1, 4, none⟩ = some (.slice A ts.length ac) := (((Below.refl w5.heap.size w5).alloc (Nat.le_refl _) (.cells #[.int .i64 x1, .int .i64 x2, .string nm1, .slice M1 n1 c1, .slice M2 n2 c2] 27)).cell (p := ⟨w.heap.size + 1, 4, none⟩) hM5.box.lt).trans y2; have hN := news5 w5 27 (.int .i64 x1) (.int .i64 x2) (.string nm1) (.slice M1 n1 c1) (.slice M2 n2 c2); clear hM5)
            | (refine step_append_lies _ (by rfl) (.tmp 22) (.tmp 26) _ (by rfl) (w.heap.size + 1 + 1) 27 i1 (.agg #[.int .i64 0, .int .i64 0, .string ⟨#[]⟩, .slice none 0 0, .slice none 0 0]) 5 80 Tryz.underlying25 hi1 hy0 hy1 hy2 rfl (by decide) _ ts.length xs (by rfl) HA5.out.parts.own ⟨w5.heap.size, 0, none⟩ 1 1 [.int .i64 x1, .int .i64 x2, .string nm1, .slice M1 n1 c1, .slice M2 n2 c2] (by rfl) rfl hN.1 hN.2 (by omega) (by unfold maxLen; omega) (by omega) (by simp; omega) (w5.heap.size + 1) (by simp) ?_; intro g cap w6 hown6 hg6 hat6 hlt6; have hlo := (fun q (hq : (Value.slice A ts.length ac).ownBlock = some q) => (HA5.out.parts.own.lt q hq).1); have hB6 : Below (w.heap.size + 1 + 1) w5 w6 := ((Below.refl (w.heap.size + 1 + 1) w5).alloc (by omega) _).grown hg6 (by simp; omega) hlo; have hM6 := HM5.out.more hB6 (by omega) (by omega) (by omega) (by omega); have HM7 := Lib.hid (hM6.put2 (.slice (some ⟨g, 0, none⟩) (ts.length + 1) cap) hzp hzr (by omega)); have m1 : w6.cell? ⟨w.heap.size + 1, 4, none⟩ = some (.slice A ts.length ac) := hM6.box.cell 4; have n1 : w6.frozen? ⟨w.heap.size + 1, 4, none⟩ = false := hM6.box.free 4; clear hM6 hB6 hown6 hg6 hat6 hlo))
          all_goals go_wp2
          all_goals go_meet
          all_goals exact ⟨some ⟨g, 0, none⟩, ts.length + 1, cap, j', HM7.out⟩
        case rest =>
          obtain ⟨A', m', ac', j9, hM7⟩ := hcut
          have HT7 := Lib.hid (take_bad p j9 s 44 wc hM7.rd)
          have HM7 := Lib.hid hM7
          clear hM7 HTB HA4
          go_wp2_with fail
          refine HT7.out.mono ?_
          rintro e w8 ⟨rfl, hr8, hg8⟩
          have HM8 := Lib.hid (HM7.out.read hr8 hg8 hzp hrp)
          have HMU := Lib.hid (must_no p j9 s true 125 w8 hr8 hs (Or.inl rfl))
          clear hr8 hg8
          go_wp2_with fail
          refine HMU.out.mono ?_
          rintro e w9 ⟨rfl, hr9, hg9⟩
          have HM9 := Lib.hid (HM8.out.read hr9 hg9 hzp hrp)
          clear hr9 hg9
          have d0 : w9.cell? ⟨w.heap.size + 1, 0, none⟩ = some (.int .i64 3) := HM9.out.box.cell 0
          have d1 : w9.cell? ⟨w.heap.size + 1, 1, none⟩ = some (.int .i64 0) := HM9.out.box.cell 1
          have d2 : w9.cell? ⟨w.heap.size + 1, 2, none⟩ = some (.string ⟨#[]⟩) := HM9.out.box.cell 2
          have d3 : w9.cell? ⟨w.heap.size + 1, 3, none⟩ = some (.slice L' (ls ++ [s.extract j k]).length lc') := HM9.out.box.cell 3
          have d4 : w9.cell? ⟨w.heap.size + 1, 4, none⟩ = some (.slice A' m' ac') := HM9.out.box.cell 4
          have e0 : w9.cell? ⟨w.heap.size, 0, none⟩ = some (.int .i64 0) := HM9.out.zero.cell 0
          have f0 : w9.frozen? ⟨w.heap.size, 0, none⟩ = false := HM9.out.zero.free 0
          have e1 : w9.cell? ⟨w.heap.size, 1, none⟩ = some (.int .i64 0) := HM9.out.zero.cell 1
          have f1 : w9.frozen? ⟨w.heap.size, 1, none⟩ = false := HM9.out.zero.free 1
          have e2 : w9.cell? ⟨w.heap.size, 2, none⟩ = some (.string ⟨#[]⟩) := HM9.out.zero.cell 2
          have f2 : w9.frozen? ⟨w.heap.size, 2, none⟩ = false := HM9.out.zero.free 2
          have e3 : w9.cell? ⟨w.heap.size, 3, none⟩ = some (.slice none 0 0) := HM9.out.zero.cell 3
          have f3 : w9.frozen? ⟨w.heap.size, 3, none⟩ = false := HM9.out.zero.free 3
          have e4 : w9.cell? ⟨w.heap.size, 4, none⟩ = some (.slice none 0 0) := HM9.out.zero.cell 4
          have f4 : w9.frozen? ⟨w.heap.size, 4, none⟩ = false := HM9.out.zero.free 4
          have HF := Lib.hid (fun a b c d e => box_grown5 HM9.out.grown (Nat.le_refl w.heap.size) a b c d e)
          have HR := Lib.hid (fun a b c d e => HM9.out.rd.block (w' := (((((w9.setCell ⟨w.heap.size, 0, none⟩ a).setCell ⟨w.heap.size, 1, none⟩ b).setCell ⟨w.heap.size, 2, none⟩ c).setCell ⟨w.heap.size, 3, none⟩ d).setCell ⟨w.heap.size, 4, none⟩ e)) (set5_keep _ _ _ _ _ _ _ _ (fun e => hrp e.symm)))
          go_wp2
          exact bodyPost_ret (v := .agg #[.int .i64 3, .int .i64 0, .string ⟨#[]⟩, .slice L' (ls ++ [s.extract j k]).length lc', .slice A' m' ac']) (by simp [results, Tryz.results57, go_sem, e0, e1, e2, e3, e4]) rfl (Or.inl ⟨HNONE.out, 3, 0, ⟨#[]⟩, L', _, lc', A', m', ac', j9, rfl, HR.out _ _ _ _ _, HF.out _ _ _ _ _⟩)

end Go.Proofs.YtceclhndagoddaaGreatDoor.V
