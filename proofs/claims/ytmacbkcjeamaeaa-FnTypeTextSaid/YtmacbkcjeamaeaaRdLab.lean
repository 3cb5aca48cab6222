/- impl's reader of texts of types: labels with types. -/
import Derived.Test.YtmacbkcjeamaeaaRdMid
import Derived.Test.YtmacbkcjeamaeaaReadLab
import Derived.Deep.RegionHeld3
import Derived.Deep.DeepCutAuto
import Derived.Deep.CutRange
namespace Go.Proofs.Ytmacbkcjeamaeaa
open Go.RowKit

/-- The state at the loop's head. -/
def AtLabR (w : World) (ps pa : Nat) (s : ByteArray) (i F : Nat) (f : List UInt8 → Option (Ty × List UInt8)) (k0 : Int) (wr : World) : Prop :=
  ∃ (ls : List ByteArray) (ts : List Ty) (L A : Option Addr) (lc ac : Nat) (xs : List Value) (vs : Nat → Value) (lo hi : Nat → Nat) (j fuel : Nat),
    MakeR w wr ps pa (w.heap.size + 1 + 1) s j (.int .i64 k0) (.slice L ls.length lc) (.slice A ts.length ac) ∧ OwnAt wr (w.heap.size + 1 + 1 + 1) L lc A ac (.mk k0 ls ts) xs vs lo hi ∧
    ls.length = ts.length ∧ ls.length ≤ j ∧ Hid (rdLab f F (restOf s i) = glue ls ts (rdLab f fuel (restOf s j))) ∧ Hid ((restOf s j).length < fuel)

/-- A reading of labels with types. -/
def LabR (x : Option (List ByteArray × List Ty × List UInt8)) (k0 : Int) (w : World) (ps pa : Nat) (s : ByteArray) (e : Ending) (w' : World) : Prop :=
  (x = none ∧ FailR w ps pa s e w') ∨ ∃ ls ts q, x = some (ls, ts, q) ∧ DoneR w ps pa s (.mk k0 ls ts) q e w'

set_option maxHeartbeats 4000000 in
set_option maxRecDepth 100000 in
set_option linter.unusedSimpArgs false in
theorem labelsR (n : Nat) (d d' k0 : Int) (hd : IntKind.i64.wrap (d - 1) = d') (H : TypeR n d') (w : World) (ps pa i : Nat) (s : ByteArray) (hr : RAt w ps pa s i) (hs : s.size ≤ 1048576) :
    Calls Try.prog 78 #[.agg #[rdAcc ps pa, rdTak ps pa, rdEnd ps pa], .int .i64 k0, .int .i64 d] w (LabR (rdLab (rdTy n) ((restOf s i).length + 1) (restOf s i)) k0 w ps pa s) := by
  obtain ⟨i0, hi0, hz0, hz1, hz2⟩ := info_parts infoString
  obtain ⟨i1, hi1, hy0, hy1, hy2⟩ := info_parts infoType
  have hsl := hr.lts
  have hal := hr.lta
  obtain ⟨hb0, v0, r0, q0, hs0⟩ := boxes3 w 55 27 27 #[rdAcc ps pa, rdTak ps pa, rdEnd ps pa] #[.int .i64 0, .slice none 0 0, .slice none 0 0] #[.int .i64 k0, .slice none 0 0, .slice none 0 0]
  have hM0 : MakeR w (((w.alloc (.cells #[rdAcc ps pa, rdTak ps pa, rdEnd ps pa] 55)).alloc (.cells #[.int .i64 0, .slice none 0 0, .slice none 0 0] 27)).alloc (.cells #[.int .i64 k0, .slice none 0 0, .slice none 0 0] 27)) ps pa (w.heap.size + 1 + 1) s i (.int .i64 k0) (.slice none 0 0) (.slice none 0 0) := ⟨hr.below hb0 hsl hal, v0, r0, q0, grown_low (only_refl w (some pa)) hb0 (Nat.le_refl _), rfl, hsl, hal⟩
  have hO0 : AtLabR w ps pa s i ((restOf s i).length + 1) (rdTy n) k0 (((w.alloc (.cells #[rdAcc ps pa, rdTak ps pa, rdEnd ps pa] 55)).alloc (.cells #[.int .i64 0, .slice none 0 0, .slice none 0 0] 27)).alloc (.cells #[.int .i64 k0, .slice none 0 0, .slice none 0 0] 27)) := by
    obtain ⟨xs, vs, lo, hi, hO⟩ := OwnAt.leaf (((w.alloc (.cells #[rdAcc ps pa, rdTak ps pa, rdEnd ps pa] 55)).alloc (.cells #[.int .i64 0, .slice none 0 0, .slice none 0 0] 27)).alloc (.cells #[.int .i64 k0, .slice none 0 0, .slice none 0 0] 27)) (w.heap.size + 1 + 1 + 1) k0
    exact ⟨[], [], none, none, 0, 0, xs, vs, lo, hi, i, _, hM0, hO, rfl, Nat.zero_le _, Lib.hid (glue_nil _).symm, Lib.hid (Nat.lt_succ_self _)⟩
  have HO := Lib.hid hO0
  have HB := Lib.hid H
  clear hr v0 r0 q0 hM0 hO0 H hb0 hs0
  go_enter Try.func78, Try.ntmps78
  go_wp2
  go_loopw [] (fun wr => AtLabR w ps pa s i ((restOf s i).length + 1) (rdTy n) k0 wr) (fun wr => s.size - placeAt wr pa)
  case atStart => exact HO.out
  case round =>
    obtain ⟨ls, ts, L, A, lc, ac, xs, vs, lo, hi, j, fuel, hM, hA, hlen, hlj, hmod, hfu⟩ := hrel
    have hpl2 := Lib.hid hM.rd.where
    have hjs := hM.rd.le
    have b1 : wr.cell? ⟨w.heap.size, 1, none⟩ = some (rdTak ps pa) := hM.rdr.cell 1
    have HT := Lib.hid (takeAll_any ps pa j s wr hM.rd hs)
    have HM := Lib.hid hM
    have HA := Lib.hid hA
    have HLEN := Lib.hid hlen
    clear hM hA hlen
    go_wp2_with fail
    refine HT.out.mono ?_
    rintro e w3 ⟨k, hjk, ⟨rfl, hr3, hg3⟩, hdw⟩
    have HDW := Lib.hid hdw
    have HM3 := Lib.hid (HM.out.read hr3 hg3)
    have HA3 := Lib.hid (HA.out.grown hg3 (by omega))
    have hks := hr3.le
    have b0 : w3.cell? ⟨w.heap.size, 0, none⟩ = some (rdAcc ps pa) := HM3.out.rdr.cell 0
    clear hr3 hg3 hdw HM HA HT b1
    by_cases h58 : ∃ hk : k < s.size, s[k] = 58
    · obtain ⟨hk, hc⟩ := h58
      have HC := Lib.hid (acc_yes ps pa k s 58 w3 HM3.out.rd hs hk hc)
      have HE := Lib.hid (eat_hit hk hc)
      clear hc
      go_wp2_with fail
      refine HC.out.mono ?_
      rintro e w4 ⟨rfl, hr4, hg4⟩
      have HM4 := Lib.hid (HM3.out.read hr4 hg4)
      have HA4 := Lib.hid (HA3.out.grown hg4 (by omega))
      have HTY := Lib.hid (HB.out w4 ps pa (k + 1) s hr4 hs)
      have b0 : w4.cell? ⟨w.heap.size, 0, none⟩ = some (rdAcc ps pa) := HM4.out.rdr.cell 0
      have b1 : w4.cell? ⟨w.heap.size, 1, none⟩ = some (rdTak ps pa) := HM4.out.rdr.cell 1
      have b2 : w4.cell? ⟨w.heap.size, 2, none⟩ = some (rdEnd ps pa) := HM4.out.rdr.cell 2
      clear hr4 hg4 HM3 HA3 HC
      go_wp2_with fail
      refine HTY.out.mono ?_
      rintro e w5 (⟨hn, x, L5, n5, lc5, A5, m5, ac5, j5, rfl, hr5, hg5⟩ | ⟨t, r, hx, v, j5, rfl, hrr, hr5, hO5, hg5⟩)
      · have HNONE := Lib.hid (hmod.out.trans (round_type (ls := ls) (ts := ts) HDW.out.1 hfu.out HE.out hn))
        have HM5 := Lib.hid (HM4.out.read hr5 hg5)
        have hzl := HM5.out.box.lt
        have hb6 := (Below.refl w5.heap.size w5).alloc (Nat.le_refl _) (.cells #[.int .i64 x, .slice L5 n5 lc5, .slice A5 m5 ac5] 27)
        have hM6 := HM5.out.more hb6 hzl
        clear hr5 hg5 hn hb6 HM4 HTY b0 b1 b2
        go_upto_region 6 with fail
        generalize w5.alloc (.cells #[.int .i64 x, .slice L5 n5 lc5, .slice A5 m5 ac5] 27) = w6 at *
        have d0 : w6.cell? ⟨w.heap.size + 1, 0, none⟩ = some (.int .i64 0) := hM6.zero.cell 0
        have d1 : w6.cell? ⟨w.heap.size + 1, 1, none⟩ = some (.slice none 0 0) := hM6.zero.cell 1
        have d2 : w6.cell? ⟨w.heap.size + 1, 2, none⟩ = some (.slice none 0 0) := hM6.zero.cell 2
        have f0 : w6.frozen? ⟨w.heap.size + 1, 0, none⟩ = false := hM6.zero.free 0
        have f1 : w6.frozen? ⟨w.heap.size + 1, 1, none⟩ = false := hM6.zero.free 1
        have f2 : w6.frozen? ⟨w.heap.size + 1, 2, none⟩ = false := hM6.zero.free 2
        have HM6 := Lib.hid hM6
        clear hM6
        go_wp2
        exact bodyPost_ret (v := .tuple #[.agg #[.int .i64 0, .slice none 0 0, .slice none 0 0], .bool false]) (by simp [results, Try.results78, go_sem, d0, d1, d2]) rfl (Or.inl ⟨HNONE.out, HM6.out.fail _ _ _⟩)
      · obtain ⟨L5, l5, A5, a5, rfl⟩ := hO5.open
        have HTR := Lib.hid hO5.owned
        have HM5 := Lib.hid (HM4.out.read hr5 hg5)
        have HA5 := Lib.hid (HA4.out.grown hg5 (by omega))
        have hz5 := HM5.out.box.lt
        have HX := Lib.hid hx
        have HLL : Hid (∀ g, L = some ⟨g, 0, none⟩ → g < w4.heap.size) := Lib.hid fun g hg => (HA4.out.row.lt g (by rw [hg]; rfl)).2
        have HAL : Hid (∀ g, A = some ⟨g, 0, none⟩ → g < w4.heap.size) := Lib.hid fun g hg => (HA4.out.parts.own.lt g (by rw [hg]; rfl)).2
        have HPL : Hid (∀ i, i < ts.length → hi i ≤ w4.heap.size) := Lib.hid fun i hi' => (HA4.out.parts.low i hi').2
        have hz4 := HM4.out.box.lt
        have HRR := Lib.hid hrr
        have hs45 := hg5.size
        clear hr5 hg5 hO5 hx hrr HM4 HA4 HTY b0 b1 b2
        go_upto_region 6 with fail
        have HM6 := Lib.hid (HM5.out.more ((Below.refl w5.heap.size w5).alloc (Nat.le_refl _) (.cells #[.int .i64 t.kind, .slice L5 t.labels.length l5, .slice A5 t.args.length a5] 27)) hz5)
        have HA6 := Lib.hid (HA5.out.alloc (.cells #[.int .i64 t.kind, .slice L5 t.labels.length l5, .slice A5 t.args.length a5] 27))
        have HQ6 := Lib.hid (Whole1.new w5 27 #[.int .i64 t.kind, .slice L5 t.labels.length l5, .slice A5 t.args.length a5])
        have HT6 := Lib.hid (HTR.out.keep (w' := w5.alloc (.cells #[.int .i64 t.kind, .slice L5 t.labels.length l5, .slice A5 t.args.length a5] 27)) fun b hb _ => Below.heap_alloc _ _ _ hb.2)
        have hs6 : (w5.alloc (.cells #[.int .i64 t.kind, .slice L5 t.labels.length l5, .slice A5 t.args.length a5] 27)).heap.size = w5.heap.size + 1 := by simp
        generalize w5.alloc (.cells #[.int .i64 t.kind, .slice L5 t.labels.length l5, .slice A5 t.args.length a5] 27) = w6 at *
        clear HM5 HA5 HTR
        have q0 : w6.cell? ⟨w5.heap.size, 0, none⟩ = some (.int .i64 t.kind) := HQ6.out.cell 0
        have q1 : w6.cell? ⟨w5.heap.size, 1, none⟩ = some (.slice L5 t.labels.length l5) := HQ6.out.cell 1
        have q2 : w6.cell? ⟨w5.heap.size, 2, none⟩ = some (.slice A5 t.args.length a5) := HQ6.out.cell 2
        have z1 : w6.cell? ⟨w.heap.size + 1 + 1, 1, none⟩ = some (.slice L ls.length lc) := HM6.out.box.cell 1
        have z2 : w6.cell? ⟨w.heap.size + 1 + 1, 2, none⟩ = some (.slice A ts.length ac) := HM6.out.box.cell 2
        have HM6' := Lib.hid (⟨HM6.out, HA6.out, HT6.out, HQ6.out, hz4, hs45⟩ : RMid w w6 ps pa (w.heap.size + 1 + 1) s j5 (.int .i64 k0) (.slice L ls.length lc) (.slice A ts.length ac) w4.heap.size w5.heap.size #[.int .i64 t.kind, .slice L5 t.labels.length l5, .slice A5 t.args.length a5] (.agg #[.int .i64 t.kind, .slice L5 t.labels.length l5, .slice A5 t.args.length a5]) t L lc A ac (.mk k0 ls ts) xs vs lo hi)
        have hes : (s.extract j k).size ≤ 1048576 := by rw [ByteArray.size_extract]; omega
        have hlsz : ls.length ≤ 1048576 := by omega
        have htsz : ts.length ≤ 1048576 := by have := HLEN.out; omega
        go_upto_region 8 with fail
        go_cut [] from 14 to 48 (fun wx => ∃ (L' A' : Option Addr) (lc' ac' : Nat) (xs' : List Value) (vs' : Nat → Value) (lo' hi' : Nat → Nat), MakeR w wx ps pa (w.heap.size + 1 + 1) s j5 (.int .i64 k0) (.slice L' (ls ++ [s.extract j k]).length lc') (.slice A' (ts ++ [t]).length ac') ∧ OwnAt wx (w.heap.size + 1 + 1 + 1) L' lc' A' ac' (.mk k0 (ls ++ [s.extract j k]) (ts ++ [t])) xs' vs' lo' hi')
        case first =>
--REGION8
          refine region_until (fun x : World => x.cell? ⟨w5.heap.size, 0, none⟩ = some (.int .i64 t.kind) ∧ x.cell? ⟨w5.heap.size, 1, none⟩ = some (.slice L5 t.labels.length l5) ∧ x.cell? ⟨w5.heap.size, 2, none⟩ = some (.slice A5 t.args.length a5) ∧ x.cell? ⟨w.heap.size + 1 + 1, 1, none⟩ = some (.slice L ls.length lc) ∧ x.cell? ⟨w.heap.size + 1 + 1, 2, none⟩ = some (.slice A ts.length ac)) [4, 8, 9] (by kernel_rfl) ?_
          have HM7 := Lib.hid HM6'.out.drew
          clear q0 q1 q2 z1 z2 HM6'
          generalize w6.drew = w7 at *
          have HS := Lib.hid (show (fun x : World => x.cell? ⟨w5.heap.size, 0, none⟩ = some (.int .i64 t.kind) ∧ x.cell? ⟨w5.heap.size, 1, none⟩ = some (.slice L5 t.labels.length l5) ∧ x.cell? ⟨w5.heap.size, 2, none⟩ = some (.slice A5 t.args.length a5) ∧ x.cell? ⟨w.heap.size + 1 + 1, 1, none⟩ = some (.slice L ls.length lc) ∧ x.cell? ⟨w.heap.size + 1 + 1, 2, none⟩ = some (.slice A ts.length ac)) w7 from ⟨HM7.out.box.cell 0, HM7.out.box.cell 1, HM7.out.box.cell 2, HM7.out.make.box.cell 1, HM7.out.make.box.cell 2⟩)
          refine take_any (i := 0) (v := .pointer (some ⟨w.heap.size + 1 + 1, 1, none⟩)) rfl (by kernel_rfl) (by kernel_rfl) (by kernel_rfl) (by kernel_rfl) (fun _ _ _ h => h) (Or.inr HS.out) ⟨by rfl, fun x => by go_simp⟩ ?_
          (try simp only [Act.put, List.setIfInBounds_toArray, List.set_cons_zero, List.set_cons_succ])
          refine take_any (i := 5) (v := .pointer (some ⟨w.heap.size + 1 + 1, 2, none⟩)) rfl (by kernel_rfl) (by kernel_rfl) (by kernel_rfl) (by kernel_rfl) (fun _ _ _ h => h) (Or.inr HS.out) ⟨by rfl, fun x => by go_simp⟩ ?_
          (try simp only [Act.put, List.setIfInBounds_toArray, List.set_cons_zero, List.set_cons_succ])
          refine take_any (i := 2) (v := .string (s.extract j k)) rfl (by kernel_rfl) (by kernel_rfl) (by kernel_rfl) (by kernel_rfl) (fun _ _ _ h => h) (Or.inr HS.out) ⟨by rfl, fun x => by go_simp⟩ ?_
          (try simp only [Act.put, List.setIfInBounds_toArray, List.set_cons_zero, List.set_cons_succ])
          refine take_held (i := 1) 4 (v := .slice L ls.length lc) rfl (by kernel_rfl) (by kernel_rfl) (by kernel_rfl) (by kernel_rfl) (by kernel_rfl) (by kernel_rfl) (by kernel_rfl) (fun _ _ _ h => h) HS.out ⟨by rfl, fun x hSw => by obtain ⟨_, _, _, _, _⟩ := hSw; go_simp⟩ ?_
          (try simp only [Act.put, List.setIfInBounds_toArray, List.set_cons_zero, List.set_cons_succ])
          refine take_held (i := 6) 9 (v := .slice A ts.length ac) rfl (by kernel_rfl) (by kernel_rfl) (by kernel_rfl) (by kernel_rfl) (by kernel_rfl) (by kernel_rfl) (by kernel_rfl) (fun _ _ _ h => h) HS.out ⟨by rfl, fun x hSw => by obtain ⟨_, _, _, _, _⟩ := hSw; go_simp⟩ ?_
          (try simp only [Act.put, List.setIfInBounds_toArray, List.set_cons_zero, List.set_cons_succ])
          refine take_held (i := 7) 8 (v := .agg #[.int .i64 t.kind, .slice L5 t.labels.length l5, .slice A5 t.args.length a5]) rfl (by kernel_rfl) (by kernel_rfl) (by kernel_rfl) (by kernel_rfl) (by kernel_rfl) (by kernel_rfl) (by kernel_rfl) (fun _ _ _ h => h) HS.out ⟨by rfl, fun x hSw => by obtain ⟨_, _, _, _, _⟩ := hSw; go_simp⟩ ?_
          (try simp only [Act.put, List.setIfInBounds_toArray, List.set_cons_zero, List.set_cons_succ])
          clear HS
          refine turns (rs := [3, 8]) (by kernel_rfl) (by rfl) ?_
          refine Turns.cons rfl (fun K hK => ?_) ?_
          · have HM8 := Lib.hid (HM7.out.alloc (.cells #[.string (s.extract j k)] 9))
            have HNA := Lib.hid (Whole1.new w7 9 #[.string (s.extract j k)])
            have hgt : w5.heap.size < w7.heap.size := HM7.out.box.lt
            go_simp
            clear HM7
            generalize w7.alloc (.cells #[.string (s.extract j k)] 9) = w8 at *
            refine hK.out _ _ (Or.inr ⟨HM8.out.box.cell 0, HM8.out.box.cell 1, HM8.out.box.cell 2, HM8.out.make.box.cell 1, HM8.out.make.box.cell 2⟩) ?_
            clear hK K
            (try simp only [Act.put, List.setIfInBounds_toArray, List.set_cons_zero, List.set_cons_succ])
            refine turns (rs := [4, 8]) (by kernel_rfl) (by rfl) ?_
            refine Turns.cons (o := { dst := some 36, op := .call { callee := .builtin .append, args := #[.tmp 33, .tmp 35], argTypes := #[24, 24] }, type := 24, pos := "l04_typetext.go:82", after := #[{ on := 1, ground := .data }, { on := 3, ground := .data }], guard := none }) rfl (fun K hK => ?_) ?_
            · refine RMid.label (by rfl) (.tmp 33) (.tmp 35) (by rfl) HM8.out (by rfl) (s.extract j k) _ (by rfl) HNA.out hes hlsz HLL.out (fun g cap w9 hm hkeep hsz hgl => ?_)
              have HM9 := Lib.hid hm
              have HGL := Lib.hid hgl
              clear hm hkeep hgl HNA HM8
              refine hK.out _ _ (Or.inr ⟨HM9.out.box.cell 0, HM9.out.box.cell 1, HM9.out.box.cell 2, HM9.out.make.box.cell 1, HM9.out.make.box.cell 2⟩) ?_
              clear hK K
              (try simp only [Act.put, List.setIfInBounds_toArray, List.set_cons_zero, List.set_cons_succ])
              have HS := Lib.hid (show (fun x : World => x.cell? ⟨w5.heap.size, 0, none⟩ = some (.int .i64 t.kind) ∧ x.cell? ⟨w5.heap.size, 1, none⟩ = some (.slice L5 t.labels.length l5) ∧ x.cell? ⟨w5.heap.size, 2, none⟩ = some (.slice A5 t.args.length a5) ∧ x.cell? ⟨w.heap.size + 1 + 1, 1, none⟩ = some (.slice L ls.length lc) ∧ x.cell? ⟨w.heap.size + 1 + 1, 2, none⟩ = some (.slice A ts.length ac)) w9 from ⟨HM9.out.box.cell 0, HM9.out.box.cell 1, HM9.out.box.cell 2, HM9.out.make.box.cell 1, HM9.out.make.box.cell 2⟩)
              refine take_any (i := 10) (v := .pointer (some ⟨w.heap.size + 1 + 1, 1, none⟩)) rfl (by kernel_rfl) (by kernel_rfl) (by kernel_rfl) (by kernel_rfl) (fun _ _ _ h => h) (Or.inr HS.out) ⟨by rfl, fun x => by go_simp⟩ ?_
              (try simp only [Act.put, List.setIfInBounds_toArray, List.set_cons_zero, List.set_cons_succ])
              clear HS
              refine turns (rs := [8]) (by kernel_rfl) (by rfl) ?_
              refine Turns.cons rfl (fun K hK => ?_) ?_
              · have HM10 := Lib.hid (HM9.out.alloc (.cells #[.int .i64 t.kind, .slice L5 t.labels.length l5, .slice A5 t.args.length a5] 27))
                have HNB := Lib.hid (Whole1.new w9 27 #[.int .i64 t.kind, .slice L5 t.labels.length l5, .slice A5 t.args.length a5])
                have hgt : w5.heap.size < w9.heap.size := HM9.out.box.lt
                go_simp
                clear HM9
                generalize w9.alloc (.cells #[.int .i64 t.kind, .slice L5 t.labels.length l5, .slice A5 t.args.length a5] 27) = w10 at *
                refine hK.out _ _ (Or.inr ⟨HM10.out.box.cell 0, HM10.out.box.cell 1, HM10.out.box.cell 2, HM10.out.make.box.cell 1, HM10.out.make.box.cell 2⟩) ?_
                clear hK K
                (try simp only [Act.put, List.setIfInBounds_toArray, List.set_cons_zero, List.set_cons_succ])
                refine turns (rs := [9]) (by kernel_rfl) (by rfl) ?_
                refine Turns.cons (o := { dst := some 41, op := .call { callee := .builtin .append, args := #[.tmp 38, .tmp 40], argTypes := #[25, 25] }, type := 25, pos := "l04_typetext.go:82", after := #[{ on := 6, ground := .data }, { on := 8, ground := .data }, { on := 4, ground := .chain }], guard := none }) rfl (fun K hK => ?_) ?_
                · refine RMid.arg (by rfl) (.tmp 38) (.tmp 40) (by rfl) HM10.out (by rfl) _ (by rfl) HNB.out ⟨rfl, rfl, rfl⟩ htsz (fun g' hg' => by injection hg' with e; injection e with e; rw [← e]; exact HGL.out) HAL.out HPL.out (fun g2 cap2 w11 hm hkeep hsz => ?_)
                  have HM11 := Lib.hid hm
                  clear hm hkeep HNB HM10
                  refine hK.out _ _ (Or.inl (up_of (by kernel_rfl))) ?_
                  clear hK K
                  (try simp only [Act.put, List.setIfInBounds_toArray, List.set_cons_zero, List.set_cons_succ])
                  refine turns (rs := [11]) (by kernel_rfl) (by rfl) ?_
                  refine Turns.cons rfl (fun K hK => ?_) Turns.nil
                  have m1 : w11.cell? ⟨w.heap.size + 1 + 1, 1, none⟩ = some (.slice L ls.length lc) := HM11.out.make.box.cell 1
                  have n1 : w11.frozen? ⟨w.heap.size + 1 + 1, 1, none⟩ = false := HM11.out.make.box.free 1
                  have HB10 := Lib.hid (HM11.out.make.put1 (.slice (some ⟨g, 0, none⟩) (ls.length + 1) cap))
                  have HO10 := Lib.hid (HM11.out.own.setz (i := 1) (.slice (some ⟨g, 0, none⟩) (ls.length + 1) cap))
                  go_simp
                  clear m1 n1
                  generalize w11.setCell ⟨w.heap.size + 1 + 1, 1, none⟩ (.slice (some ⟨g, 0, none⟩) (ls.length + 1) cap) = y1 at *
                  refine hK.out _ _ (Or.inl (up_of (by kernel_rfl))) ?_
                  clear hK K
                  (try simp only [Act.put, List.setIfInBounds_toArray, List.set_cons_zero, List.set_cons_succ])
                  refine take_any (i := 12) (v := .pointer (some ⟨w.heap.size + 1 + 1, 2, none⟩)) rfl (by kernel_rfl) (by kernel_rfl) (by kernel_rfl) (by kernel_rfl) (fun _ _ _ h => h) (Or.inl (up_of (by kernel_rfl))) ⟨by rfl, fun x => by go_simp⟩ ?_
                  (try simp only [Act.put, List.setIfInBounds_toArray, List.set_cons_zero, List.set_cons_succ])
                  refine turns (rs := [13]) (by kernel_rfl) (by rfl) ?_
                  refine Turns.cons rfl (fun K hK => ?_) Turns.nil
                  have m1 : y1.cell? ⟨w.heap.size + 1 + 1, 2, none⟩ = some (.slice A ts.length ac) := HB10.out.box.cell 2
                  have n1 : y1.frozen? ⟨w.heap.size + 1 + 1, 2, none⟩ = false := HB10.out.box.free 2
                  have HB11 := Lib.hid (HB10.out.put2 (.slice (some ⟨g2, 0, none⟩) (ts.length + 1) cap2))
                  have HO11 := Lib.hid (HO10.out.setz (i := 2) (.slice (some ⟨g2, 0, none⟩) (ts.length + 1) cap2))
                  go_simp
                  clear m1 n1
                  generalize y1.setCell ⟨w.heap.size + 1 + 1, 2, none⟩ (.slice (some ⟨g2, 0, none⟩) (ts.length + 1) cap2) = y2 at *
                  refine hK.out _ _ (Or.inl (up_of (by kernel_rfl))) ?_
                  clear hK K
                  (try simp only [Act.put, List.setIfInBounds_toArray, List.set_cons_zero, List.set_cons_succ])
                  refine until_done (by kernel_rfl) ?_
                  go_wp2
                  go_meet
                  exact ⟨some ⟨g, 0, none⟩, some ⟨g2, 0, none⟩, cap, cap2, _, _, _, _, by rw [List.length_append, List.length_append, List.length_singleton, List.length_singleton]; exact HB11.out, HO11.out⟩
                exact Turns.nil
              exact Turns.nil
            refine Turns.cons rfl (fun K hK => ?_) ?_
            · have HM9 := Lib.hid (HM8.out.alloc (.cells #[.int .i64 t.kind, .slice L5 t.labels.length l5, .slice A5 t.args.length a5] 27))
              have HNB := Lib.hid (Whole1.new w8 27 #[.int .i64 t.kind, .slice L5 t.labels.length l5, .slice A5 t.args.length a5])
              have HNA := Lib.hid (HNA.out.below ((Below.refl w8.heap.size w8).alloc (Nat.le_refl _) (.cells #[.int .i64 t.kind, .slice L5 t.labels.length l5, .slice A5 t.args.length a5] 27)) HNA.out.lt)
              have hgt : w5.heap.size < w8.heap.size := HM8.out.box.lt
              go_simp
              clear HM8
              generalize w8.alloc (.cells #[.int .i64 t.kind, .slice L5 t.labels.length l5, .slice A5 t.args.length a5] 27) = w9 at *
              refine hK.out _ _ (Or.inr ⟨HM9.out.box.cell 0, HM9.out.box.cell 1, HM9.out.box.cell 2, HM9.out.make.box.cell 1, HM9.out.make.box.cell 2⟩) ?_
              clear hK K
              (try simp only [Act.put, List.setIfInBounds_toArray, List.set_cons_zero, List.set_cons_succ])
              refine turns (rs := [4]) (by kernel_rfl) (by rfl) ?_
              refine Turns.cons (o := { dst := some 36, op := .call { callee := .builtin .append, args := #[.tmp 33, .tmp 35], argTypes := #[24, 24] }, type := 24, pos := "l04_typetext.go:82", after := #[{ on := 1, ground := .data }, { on := 3, ground := .data }], guard := none }) rfl (fun K hK => ?_) ?_
              · have hnb := HNB.out.lt
                refine RMid.label (by rfl) (.tmp 33) (.tmp 35) (by rfl) HM9.out (by rfl) (s.extract j k) _ (by rfl) HNA.out hes hlsz HLL.out (fun g cap w10 hm hkeep hsz hgl => ?_)
                have HM10 := Lib.hid hm
                have HNB := Lib.hid ((hkeep _ (by omega) hnb).trans HNB.out)
                have HGL := Lib.hid hgl
                clear hm hkeep hgl HNA HM9
                refine hK.out _ _ (Or.inr ⟨HM10.out.box.cell 0, HM10.out.box.cell 1, HM10.out.box.cell 2, HM10.out.make.box.cell 1, HM10.out.make.box.cell 2⟩) ?_
                clear hK K
                (try simp only [Act.put, List.setIfInBounds_toArray, List.set_cons_zero, List.set_cons_succ])
                have HS := Lib.hid (show (fun x : World => x.cell? ⟨w5.heap.size, 0, none⟩ = some (.int .i64 t.kind) ∧ x.cell? ⟨w5.heap.size, 1, none⟩ = some (.slice L5 t.labels.length l5) ∧ x.cell? ⟨w5.heap.size, 2, none⟩ = some (.slice A5 t.args.length a5) ∧ x.cell? ⟨w.heap.size + 1 + 1, 1, none⟩ = some (.slice L ls.length lc) ∧ x.cell? ⟨w.heap.size + 1 + 1, 2, none⟩ = some (.slice A ts.length ac)) w10 from ⟨HM10.out.box.cell 0, HM10.out.box.cell 1, HM10.out.box.cell 2, HM10.out.make.box.cell 1, HM10.out.make.box.cell 2⟩)
                refine take_any (i := 10) (v := .pointer (some ⟨w.heap.size + 1 + 1, 1, none⟩)) rfl (by kernel_rfl) (by kernel_rfl) (by kernel_rfl) (by kernel_rfl) (fun _ _ _ h => h) (Or.inr HS.out) ⟨by rfl, fun x => by go_simp⟩ ?_
                (try simp only [Act.put, List.setIfInBounds_toArray, List.set_cons_zero, List.set_cons_succ])
                clear HS
                refine turns (rs := [9]) (by kernel_rfl) (by rfl) ?_
                refine Turns.cons (o := { dst := some 41, op := .call { callee := .builtin .append, args := #[.tmp 38, .tmp 40], argTypes := #[25, 25] }, type := 25, pos := "l04_typetext.go:82", after := #[{ on := 6, ground := .data }, { on := 8, ground := .data }, { on := 4, ground := .chain }], guard := none }) rfl (fun K hK => ?_) ?_
                · refine RMid.arg (by rfl) (.tmp 38) (.tmp 40) (by rfl) HM10.out (by rfl) _ (by rfl) HNB.out ⟨rfl, rfl, rfl⟩ htsz (fun g' hg' => by injection hg' with e; injection e with e; rw [← e]; exact HGL.out) HAL.out HPL.out (fun g2 cap2 w11 hm hkeep hsz => ?_)
                  have HM11 := Lib.hid hm
                  clear hm hkeep HNB HM10
                  refine hK.out _ _ (Or.inl (up_of (by kernel_rfl))) ?_
                  clear hK K
                  (try simp only [Act.put, List.setIfInBounds_toArray, List.set_cons_zero, List.set_cons_succ])
                  refine turns (rs := [11]) (by kernel_rfl) (by rfl) ?_
                  refine Turns.cons rfl (fun K hK => ?_) Turns.nil
                  have m1 : w11.cell? ⟨w.heap.size + 1 + 1, 1, none⟩ = some (.slice L ls.length lc) := HM11.out.make.box.cell 1
                  have n1 : w11.frozen? ⟨w.heap.size + 1 + 1, 1, none⟩ = false := HM11.out.make.box.free 1
                  have HB10 := Lib.hid (HM11.out.make.put1 (.slice (some ⟨g, 0, none⟩) (ls.length + 1) cap))
                  have HO10 := Lib.hid (HM11.out.own.setz (i := 1) (.slice (some ⟨g, 0, none⟩) (ls.length + 1) cap))
                  go_simp
                  clear m1 n1
                  generalize w11.setCell ⟨w.heap.size + 1 + 1, 1, none⟩ (.slice (some ⟨g, 0, none⟩) (ls.length + 1) cap) = y1 at *
                  refine hK.out _ _ (Or.inl (up_of (by kernel_rfl))) ?_
                  clear hK K
                  (try simp only [Act.put, List.setIfInBounds_toArray, List.set_cons_zero, List.set_cons_succ])
                  refine take_any (i := 12) (v := .pointer (some ⟨w.heap.size + 1 + 1, 2, none⟩)) rfl (by kernel_rfl) (by kernel_rfl) (by kernel_rfl) (by kernel_rfl) (fun _ _ _ h => h) (Or.inl (up_of (by kernel_rfl))) ⟨by rfl, fun x => by go_simp⟩ ?_
                  (try simp only [Act.put, List.setIfInBounds_toArray, List.set_cons_zero, List.set_cons_succ])
                  refine turns (rs := [13]) (by kernel_rfl) (by rfl) ?_
                  refine Turns.cons rfl (fun K hK => ?_) Turns.nil
                  have m1 : y1.cell? ⟨w.heap.size + 1 + 1, 2, none⟩ = some (.slice A ts.length ac) := HB10.out.box.cell 2
                  have n1 : y1.frozen? ⟨w.heap.size + 1 + 1, 2, none⟩ = false := HB10.out.box.free 2
                  have HB11 := Lib.hid (HB10.out.put2 (.slice (some ⟨g2, 0, none⟩) (ts.length + 1) cap2))
                  have HO11 := Lib.hid (HO10.out.setz (i := 2) (.slice (some ⟨g2, 0, none⟩) (ts.length + 1) cap2))
                  go_simp
                  clear m1 n1
                  generalize y1.setCell ⟨w.heap.size + 1 + 1, 2, none⟩ (.slice (some ⟨g2, 0, none⟩) (ts.length + 1) cap2) = y2 at *
                  refine hK.out _ _ (Or.inl (up_of (by kernel_rfl))) ?_
                  clear hK K
                  (try simp only [Act.put, List.setIfInBounds_toArray, List.set_cons_zero, List.set_cons_succ])
                  refine until_done (by kernel_rfl) ?_
                  go_wp2
                  go_meet
                  exact ⟨some ⟨g, 0, none⟩, some ⟨g2, 0, none⟩, cap, cap2, _, _, _, _, by rw [List.length_append, List.length_append, List.length_singleton, List.length_singleton]; exact HB11.out, HO11.out⟩
                exact Turns.nil
              exact Turns.nil
            exact Turns.nil
          refine Turns.cons rfl (fun K hK => ?_) ?_
          · have HM8 := Lib.hid (HM7.out.alloc (.cells #[.int .i64 t.kind, .slice L5 t.labels.length l5, .slice A5 t.args.length a5] 27))
            have HNB := Lib.hid (Whole1.new w7 27 #[.int .i64 t.kind, .slice L5 t.labels.length l5, .slice A5 t.args.length a5])
            have hgt : w5.heap.size < w7.heap.size := HM7.out.box.lt
            go_simp
            clear HM7
            generalize w7.alloc (.cells #[.int .i64 t.kind, .slice L5 t.labels.length l5, .slice A5 t.args.length a5] 27) = w8 at *
            refine hK.out _ _ (Or.inr ⟨HM8.out.box.cell 0, HM8.out.box.cell 1, HM8.out.box.cell 2, HM8.out.make.box.cell 1, HM8.out.make.box.cell 2⟩) ?_
            clear hK K
            (try simp only [Act.put, List.setIfInBounds_toArray, List.set_cons_zero, List.set_cons_succ])
            refine turns (rs := [3]) (by kernel_rfl) (by rfl) ?_
            refine Turns.cons rfl (fun K hK => ?_) ?_
            · have HM9 := Lib.hid (HM8.out.alloc (.cells #[.string (s.extract j k)] 9))
              have HNA := Lib.hid (Whole1.new w8 9 #[.string (s.extract j k)])
              have HNB := Lib.hid (HNB.out.below ((Below.refl w8.heap.size w8).alloc (Nat.le_refl _) (.cells #[.string (s.extract j k)] 9)) HNB.out.lt)
              have hgt : w5.heap.size < w8.heap.size := HM8.out.box.lt
              go_simp
              clear HM8
              generalize w8.alloc (.cells #[.string (s.extract j k)] 9) = w9 at *
              refine hK.out _ _ (Or.inr ⟨HM9.out.box.cell 0, HM9.out.box.cell 1, HM9.out.box.cell 2, HM9.out.make.box.cell 1, HM9.out.make.box.cell 2⟩) ?_
              clear hK K
              (try simp only [Act.put, List.setIfInBounds_toArray, List.set_cons_zero, List.set_cons_succ])
              refine turns (rs := [4]) (by kernel_rfl) (by rfl) ?_
              refine Turns.cons (o := { dst := some 36, op := .call { callee := .builtin .append, args := #[.tmp 33, .tmp 35], argTypes := #[24, 24] }, type := 24, pos := "l04_typetext.go:82", after := #[{ on := 1, ground := .data }, { on := 3, ground := .data }], guard := none }) rfl (fun K hK => ?_) ?_
              · have hnb := HNB.out.lt
                refine RMid.label (by rfl) (.tmp 33) (.tmp 35) (by rfl) HM9.out (by rfl) (s.extract j k) _ (by rfl) HNA.out hes hlsz HLL.out (fun g cap w10 hm hkeep hsz hgl => ?_)
                have HM10 := Lib.hid hm
                have HNB := Lib.hid ((hkeep _ (by omega) hnb).trans HNB.out)
                have HGL := Lib.hid hgl
                clear hm hkeep hgl HNA HM9
                refine hK.out _ _ (Or.inr ⟨HM10.out.box.cell 0, HM10.out.box.cell 1, HM10.out.box.cell 2, HM10.out.make.box.cell 1, HM10.out.make.box.cell 2⟩) ?_
                clear hK K
                (try simp only [Act.put, List.setIfInBounds_toArray, List.set_cons_zero, List.set_cons_succ])
                have HS := Lib.hid (show (fun x : World => x.cell? ⟨w5.heap.size, 0, none⟩ = some (.int .i64 t.kind) ∧ x.cell? ⟨w5.heap.size, 1, none⟩ = some (.slice L5 t.labels.length l5) ∧ x.cell? ⟨w5.heap.size, 2, none⟩ = some (.slice A5 t.args.length a5) ∧ x.cell? ⟨w.heap.size + 1 + 1, 1, none⟩ = some (.slice L ls.length lc) ∧ x.cell? ⟨w.heap.size + 1 + 1, 2, none⟩ = some (.slice A ts.length ac)) w10 from ⟨HM10.out.box.cell 0, HM10.out.box.cell 1, HM10.out.box.cell 2, HM10.out.make.box.cell 1, HM10.out.make.box.cell 2⟩)
                refine take_any (i := 10) (v := .pointer (some ⟨w.heap.size + 1 + 1, 1, none⟩)) rfl (by kernel_rfl) (by kernel_rfl) (by kernel_rfl) (by kernel_rfl) (fun _ _ _ h => h) (Or.inr HS.out) ⟨by rfl, fun x => by go_simp⟩ ?_
                (try simp only [Act.put, List.setIfInBounds_toArray, List.set_cons_zero, List.set_cons_succ])
                clear HS
                refine turns (rs := [9]) (by kernel_rfl) (by rfl) ?_
                refine Turns.cons (o := { dst := some 41, op := .call { callee := .builtin .append, args := #[.tmp 38, .tmp 40], argTypes := #[25, 25] }, type := 25, pos := "l04_typetext.go:82", after := #[{ on := 6, ground := .data }, { on := 8, ground := .data }, { on := 4, ground := .chain }], guard := none }) rfl (fun K hK => ?_) ?_
                · refine RMid.arg (by rfl) (.tmp 38) (.tmp 40) (by rfl) HM10.out (by rfl) _ (by rfl) HNB.out ⟨rfl, rfl, rfl⟩ htsz (fun g' hg' => by injection hg' with e; injection e with e; rw [← e]; exact HGL.out) HAL.out HPL.out (fun g2 cap2 w11 hm hkeep hsz => ?_)
                  have HM11 := Lib.hid hm
                  clear hm hkeep HNB HM10
                  refine hK.out _ _ (Or.inl (up_of (by kernel_rfl))) ?_
                  clear hK K
                  (try simp only [Act.put, List.setIfInBounds_toArray, List.set_cons_zero, List.set_cons_succ])
                  refine turns (rs := [11]) (by kernel_rfl) (by rfl) ?_
                  refine Turns.cons rfl (fun K hK => ?_) Turns.nil
                  have m1 : w11.cell? ⟨w.heap.size + 1 + 1, 1, none⟩ = some (.slice L ls.length lc) := HM11.out.make.box.cell 1
                  have n1 : w11.frozen? ⟨w.heap.size + 1 + 1, 1, none⟩ = false := HM11.out.make.box.free 1
                  have HB10 := Lib.hid (HM11.out.make.put1 (.slice (some ⟨g, 0, none⟩) (ls.length + 1) cap))
                  have HO10 := Lib.hid (HM11.out.own.setz (i := 1) (.slice (some ⟨g, 0, none⟩) (ls.length + 1) cap))
                  go_simp
                  clear m1 n1
                  generalize w11.setCell ⟨w.heap.size + 1 + 1, 1, none⟩ (.slice (some ⟨g, 0, none⟩) (ls.length + 1) cap) = y1 at *
                  refine hK.out _ _ (Or.inl (up_of (by kernel_rfl))) ?_
                  clear hK K
                  (try simp only [Act.put, List.setIfInBounds_toArray, List.set_cons_zero, List.set_cons_succ])
                  refine take_any (i := 12) (v := .pointer (some ⟨w.heap.size + 1 + 1, 2, none⟩)) rfl (by kernel_rfl) (by kernel_rfl) (by kernel_rfl) (by kernel_rfl) (fun _ _ _ h => h) (Or.inl (up_of (by kernel_rfl))) ⟨by rfl, fun x => by go_simp⟩ ?_
                  (try simp only [Act.put, List.setIfInBounds_toArray, List.set_cons_zero, List.set_cons_succ])
                  refine turns (rs := [13]) (by kernel_rfl) (by rfl) ?_
                  refine Turns.cons rfl (fun K hK => ?_) Turns.nil
                  have m1 : y1.cell? ⟨w.heap.size + 1 + 1, 2, none⟩ = some (.slice A ts.length ac) := HB10.out.box.cell 2
                  have n1 : y1.frozen? ⟨w.heap.size + 1 + 1, 2, none⟩ = false := HB10.out.box.free 2
                  have HB11 := Lib.hid (HB10.out.put2 (.slice (some ⟨g2, 0, none⟩) (ts.length + 1) cap2))
                  have HO11 := Lib.hid (HO10.out.setz (i := 2) (.slice (some ⟨g2, 0, none⟩) (ts.length + 1) cap2))
                  go_simp
                  clear m1 n1
                  generalize y1.setCell ⟨w.heap.size + 1 + 1, 2, none⟩ (.slice (some ⟨g2, 0, none⟩) (ts.length + 1) cap2) = y2 at *
                  refine hK.out _ _ (Or.inl (up_of (by kernel_rfl))) ?_
                  clear hK K
                  (try simp only [Act.put, List.setIfInBounds_toArray, List.set_cons_zero, List.set_cons_succ])
                  refine until_done (by kernel_rfl) ?_
                  go_wp2
                  go_meet
                  exact ⟨some ⟨g, 0, none⟩, some ⟨g2, 0, none⟩, cap, cap2, _, _, _, _, by rw [List.length_append, List.length_append, List.length_singleton, List.length_singleton]; exact HB11.out, HO11.out⟩
                exact Turns.nil
              exact Turns.nil
            exact Turns.nil
          exact Turns.nil
--END8
        case rest =>
          obtain ⟨L', A', lc', ac', xs', vs', lo', hi', hM, hA⟩ := hcut
          have HM := Lib.hid hM
          have HA := Lib.hid hA
          have hsd := (rdTy_sound n _ _ _ HX.out).1
          have hrr := HRR.out
          subst hrr
          have hj5 := hM.rd.le
          have hjk5 : k + 1 ≤ j5 := by
            have h1 := congrArg List.length hsd
            rw [List.length_append, restOf_len, restOf_len] at h1
            omega
          clear hM hA hsd
          have b0 : wc.cell? ⟨w.heap.size, 0, none⟩ = some (rdAcc ps pa) := HM.out.rdr.cell 0
          by_cases h44 : ∃ hj : j5 < s.size, s[j5] = 44
          · obtain ⟨hj, hc44⟩ := h44
            have HC := Lib.hid (acc_yes ps pa j5 s 44 wc HM.out.rd hs hj hc44)
            have hmod2 := Lib.hid (hmod.out.trans (round_more (ls := ls) (ts := ts) HDW.out.1 HDW.out.2 hfu.out HE.out HX.out (eat_hit hj hc44)))
            clear hc44
            go_wp2_with fail
            refine HC.out.mono ?_
            rintro e w8 ⟨rfl, hr8, hg8⟩
            have HM8 := Lib.hid (HM.out.read hr8 hg8)
            have HA8 := Lib.hid (HA.out.grown hg8 (by omega))
            have HP8 := Lib.hid hr8.where
            clear hr8 hg8
            go_wp2
            go_roundw
            case rel => exact ⟨ls ++ [s.extract j k], ts ++ [t], L', A', lc', ac', xs', vs', lo', hi', j5 + 1, fuel - 1, HM8.out, HA8.out, by rw [List.length_append, List.length_append, HLEN.out]; rfl, by rw [List.length_append, List.length_singleton]; omega, hmod2, Lib.hid (by have := hfu.out; rw [restOf_len] at this ⊢; omega)⟩
            case measure =>
              rw [HP8.out, hpl2.out]
              omega
          · have HC := Lib.hid (acc_no ps pa j5 s 44 wc HM.out.rd (eat_miss h44))
            have hmod2 := Lib.hid (hmod.out.trans (round_last (ls := ls) (ts := ts) HDW.out.1 HDW.out.2 hfu.out HE.out HX.out (eat_miss h44)))
            clear h44
            go_wp2_with fail
            refine HC.out.mono ?_
            rintro e w8 ⟨rfl, hr8, hg8⟩
            have HM8 := Lib.hid (HM.out.read hr8 hg8)
            have HA8 := Lib.hid (HA.out.grown hg8 (by omega))
            clear hr8 hg8
            have d0 : w8.cell? ⟨w.heap.size + 1 + 1, 0, none⟩ = some (.int .i64 k0) := HM8.out.box.cell 0
            have d1 : w8.cell? ⟨w.heap.size + 1 + 1, 1, none⟩ = some (.slice L' (ls ++ [s.extract j k]).length lc') := HM8.out.box.cell 1
            have d2 : w8.cell? ⟨w.heap.size + 1 + 1, 2, none⟩ = some (.slice A' (ts ++ [t]).length ac') := HM8.out.box.cell 2
            have e0 : w8.cell? ⟨w.heap.size + 1, 0, none⟩ = some (.int .i64 0) := HM8.out.zero.cell 0
            have e1 : w8.cell? ⟨w.heap.size + 1, 1, none⟩ = some (.slice none 0 0) := HM8.out.zero.cell 1
            have e2 : w8.cell? ⟨w.heap.size + 1, 2, none⟩ = some (.slice none 0 0) := HM8.out.zero.cell 2
            have f0 : w8.frozen? ⟨w.heap.size + 1, 0, none⟩ = false := HM8.out.zero.free 0
            have f1 : w8.frozen? ⟨w.heap.size + 1, 1, none⟩ = false := HM8.out.zero.free 1
            have f2 : w8.frozen? ⟨w.heap.size + 1, 2, none⟩ = false := HM8.out.zero.free 2
            go_wp2
            exact bodyPost_ret (v := .tuple #[.agg #[.int .i64 k0, .slice L' (ls ++ [s.extract j k]).length lc', .slice A' (ts ++ [t]).length ac'], .bool true]) (by simp [results, Try.results78, go_sem, e0, e1, e2]) rfl (Or.inr ⟨_, _, _, hmod2.out, doneR_of HM8.out.rd HM8.out.grown hsl hal (Nat.le_add_right _ _) HA8.out.own (by omega) _ _ _⟩)
    · have HC := Lib.hid (acc_no ps pa k s 58 w3 HM3.out.rd (eat_miss h58))
      have HNONE := Lib.hid (hmod.out.trans (round_colon (ls := ls) (ts := ts) HDW.out.1 hfu.out (eat_miss h58)))
      clear h58
      go_wp2_with fail
      refine HC.out.mono ?_
      rintro e w4 ⟨rfl, hr4, hg4⟩
      have HM4 := Lib.hid (HM3.out.read hr4 hg4)
      clear hr4 hg4 HM3 HA3 HC b0
      have d0 : w4.cell? ⟨w.heap.size + 1, 0, none⟩ = some (.int .i64 0) := HM4.out.zero.cell 0
      have d1 : w4.cell? ⟨w.heap.size + 1, 1, none⟩ = some (.slice none 0 0) := HM4.out.zero.cell 1
      have d2 : w4.cell? ⟨w.heap.size + 1, 2, none⟩ = some (.slice none 0 0) := HM4.out.zero.cell 2
      have f0 : w4.frozen? ⟨w.heap.size + 1, 0, none⟩ = false := HM4.out.zero.free 0
      have f1 : w4.frozen? ⟨w.heap.size + 1, 1, none⟩ = false := HM4.out.zero.free 1
      have f2 : w4.frozen? ⟨w.heap.size + 1, 2, none⟩ = false := HM4.out.zero.free 2
      go_wp2
      exact bodyPost_ret (v := .tuple #[.agg #[.int .i64 0, .slice none 0 0, .slice none 0 0], .bool false]) (by simp [results, Try.results78, go_sem, d0, d1, d2]) rfl (Or.inl ⟨HNONE.out, HM4.out.fail _ _ _⟩)
end Go.Proofs.Ytmacbkcjeamaeaa
