/- impl's reader of texts of types: a tree. -/
import Derived.Test.YtmacbkcjeamaeaaRdLab
import Derived.Deep.RegionHeld3
namespace Go.Proofs.Ytmacbkcjeamaeaa
open Go.RowKit

/-- The reader's struct lies in the first new block, the result's box in the second. -/
structure HoldR (w W : World) (ps pa : Nat) (s : ByteArray) (j : Nat) : Prop where
  rd : RAt W ps pa s j
  rdr : Whole1 W w.heap.size 55 #[rdAcc ps pa, rdTak ps pa, rdEnd ps pa]
  zero : ZeroBox W (w.heap.size + 1)
  grown : w.grownBy W (some pa)
  hs : ps < w.heap.size
  ha : pa < w.heap.size
section
variable {w W W' : World} {ps pa j j' B : Nat} {s : ByteArray}
theorem HoldR.read (h : HoldR w W ps pa s j) (hr : RAt W' ps pa s j') (hg : W.grownBy W' (some pa)) : HoldR w W' ps pa s j' := by
  have ha := h.ha
  exact ⟨hr, (hg.block _ h.rdr.lt (fun e => by injection e with e; omega)).trans h.rdr, (hg.block _ h.zero.lt (fun e => by injection e with e; omega)).trans h.zero, only_trans h.grown hg, h.hs, ha⟩
theorem HoldR.more (h : HoldR w W ps pa s j) (hb : Below B W W') (hB : w.heap.size + 1 < B) : HoldR w W' ps pa s j := by
  have ha := h.ha
  have hs := h.hs
  exact ⟨h.rd.below hb (by omega) (by omega), h.rdr.below hb (by omega), h.zero.below hb hB, grown_low h.grown hb (by omega), hs, ha⟩
theorem HoldR.alloc (h : HoldR w W ps pa s j) (o : Obj) : HoldR w (W.alloc o) ps pa s j := h.more ((Below.refl W.heap.size W).alloc (Nat.le_refl _) o) h.zero.lt
theorem HoldR.drew (h : HoldR w W ps pa s j) : HoldR w W.drew ps pa s j := h.more (Below.refl W.heap.size W).drew h.zero.lt
theorem HoldR.fail (h : HoldR w W ps pa s j) (x : Int) (L A : Option Addr) (n lc m ac : Nat) (a b c : Value) :
    FailR w ps pa s (.returned (.tuple #[.agg #[.int .i64 x, .slice L n lc, .slice A m ac], .bool false])) (((W.setCell ⟨w.heap.size + 1, 0, none⟩ a).setCell ⟨w.heap.size + 1, 1, none⟩ b).setCell ⟨w.heap.size + 1, 2, none⟩ c) :=
  failR_of h.rd h.grown h.hs h.ha (by omega) x L A n lc m ac a b c
theorem HoldR.done (h : HoldR w W ps pa s j) {v : Value} {t : Ty} (hO : OwnTy W B v t) (hB : w.heap.size + 1 < B) (a b c : Value) :
    DoneR w ps pa s t (restOf s j) (.returned (.tuple #[v, .bool true])) (((W.setCell ⟨w.heap.size + 1, 0, none⟩ a).setCell ⟨w.heap.size + 1, 1, none⟩ b).setCell ⟨w.heap.size + 1, 2, none⟩ c) :=
  doneR_of h.rd h.grown h.hs h.ha (by omega) hO hB a b c
end
theorem set3_cell (w : World) (r : Nat) (a b c : Value) (g i : Nat) (hg : g ≠ r) : (((w.setCell ⟨r, 0, none⟩ a).setCell ⟨r, 1, none⟩ b).setCell ⟨r, 2, none⟩ c).cell? ⟨g, i, none⟩ = w.cell? ⟨g, i, none⟩ := by
  rw [World.cell?_setCell_far _ _ _ _ (fun e => hg e.symm), World.cell?_setCell_far _ _ _ _ (fun e => hg e.symm), World.cell?_setCell_far _ _ _ _ (fun e => hg e.symm)]

/-- A list of one tree that lies there. -/
theorem own_list {w1 : World} {base lo0 hi0 : Nat} {a b c : Value} {t : Ty} (hb : base ≤ lo0) (hl : lo0 ≤ w1.heap.size) (hs : hi0 ≤ w1.heap.size) (ht : TyIn w1 (Span lo0 hi0) (.agg #[a, b, c]) t) :
    ∃ xs vs lo hi, OwnAt (w1.alloc (.cells #[a, b, c] 27)) base none 0 (some ⟨w1.heap.size, 0, none⟩) 1 (.mk 5 [] [t]) xs vs lo hi := by
  obtain ⟨xs, vs, lo, hi, hG⟩ := gather_one hb hl (ht.wide fun b hb => ⟨hb.1, by have := hb.2; omega⟩)
  exact ⟨xs, vs, lo, hi, fun i h => absurd h (by simp [Ty.labels]), by unfold maxLen; simp [Ty.args], World.ownsRow_nil _ _ _ 1, hG, fun gl h => by cases h⟩

set_option maxHeartbeats 1000000 in
theorem typeR_zero : TypeR 0 0 := by
  intro w ps pa i s hr hs
  have hsl := hr.lts
  have hal := hr.lta
  obtain ⟨hb0, v0, r0, hs0⟩ := boxes2 w 55 27 #[rdAcc ps pa, rdTak ps pa, rdEnd ps pa] #[.int .i64 0, .slice none 0 0, .slice none 0 0]
  have HH := Lib.hid (⟨hr.below hb0 hsl hal, v0, r0, grown_low (only_refl w (some pa)) hb0 (Nat.le_refl _), hsl, hal⟩ : HoldR w _ ps pa s i)
  clear hr v0 r0 hb0 hs0
  go_enter Try.func38, Try.ntmps38
  go_upto_region 1 with fail
  generalize (w.alloc (.cells #[rdAcc ps pa, rdTak ps pa, rdEnd ps pa] 55)).alloc (.cells #[.int .i64 0, .slice none 0 0, .slice none 0 0] 27) = w1 at *
  have d0 : w1.cell? ⟨w.heap.size + 1, 0, none⟩ = some (.int .i64 0) := HH.out.zero.cell 0
  have d1 : w1.cell? ⟨w.heap.size + 1, 1, none⟩ = some (.slice none 0 0) := HH.out.zero.cell 1
  have d2 : w1.cell? ⟨w.heap.size + 1, 2, none⟩ = some (.slice none 0 0) := HH.out.zero.cell 2
  have f0 : w1.frozen? ⟨w.heap.size + 1, 0, none⟩ = false := HH.out.zero.free 0
  have f1 : w1.frozen? ⟨w.heap.size + 1, 1, none⟩ = false := HH.out.zero.free 1
  have f2 : w1.frozen? ⟨w.heap.size + 1, 2, none⟩ = false := HH.out.zero.free 2
  go_wp2
  exact bodyPost_ret (v := .tuple #[.agg #[.int .i64 0, .slice none 0 0, .slice none 0 0], .bool false]) (by simp [results, Try.results38, go_sem, d0, d1, d2]) rfl (Or.inl ⟨rfl, HH.out.fail 0 none none 0 0 0 0 _ _ _⟩)
set_option maxHeartbeats 4000000 in
set_option maxRecDepth 100000 in
theorem typeR_succ (n : Nat) (d d' : Int) (hd0 : (d == 0) = false) (hd : IntKind.i64.wrap (d - 1) = d') (H : TypeR n d') : TypeR (n + 1) d := by
  intro w ps pa i s hr hs
  have hsl := hr.lts
  have hal := hr.lta
  obtain ⟨hb0, v0, r0, hs0⟩ := boxes2 w 55 27 #[rdAcc ps pa, rdTak ps pa, rdEnd ps pa] #[.int .i64 0, .slice none 0 0, .slice none 0 0]
  have HH0 := Lib.hid (⟨hr.below hb0 hsl hal, v0, r0, grown_low (only_refl w (some pa)) hb0 (Nat.le_refl _), hsl, hal⟩ : HoldR w _ ps pa s i)
  have HB := Lib.hid H
  have HL := Lib.hid (fun k0 W j h => labelsR n d d' k0 hd H W ps pa j s h hs)
  clear hr v0 r0 hb0 hs0 H
  go_enter Try.func38, Try.ntmps38
  go_upto_region 1 with fail
  generalize (w.alloc (.cells #[rdAcc ps pa, rdTak ps pa, rdEnd ps pa] 55)).alloc (.cells #[.int .i64 0, .slice none 0 0, .slice none 0 0] 27) = wa at *
  have b0 : wa.cell? ⟨w.heap.size, 0, none⟩ = some (rdAcc ps pa) := HH0.out.rdr.cell 0
  by_cases h73 : ∃ hk : i < s.size, s[i] = 73
  · obtain ⟨hk, hc⟩ := h73
    have HC := Lib.hid (acc_yes ps pa i s 73 wa HH0.out.rd hs hk hc)
    have hX := Lib.hid (show rdTy (n + 1) (restOf s i) = some (.mk 1 [] [], restOf s (i + 1)) by simp only [rdTy, eat_hit hk hc])
    clear hc
    go_wp2_with fail
    refine HC.out.mono ?_
    rintro e w2 ⟨rfl, hr2, hg2⟩
    have HH2 := Lib.hid (HH0.out.read hr2 hg2)
    clear hr2 hg2 b0
    have d0 : w2.cell? ⟨w.heap.size + 1, 0, none⟩ = some (.int .i64 0) := HH2.out.zero.cell 0
    have d1 : w2.cell? ⟨w.heap.size + 1, 1, none⟩ = some (.slice none 0 0) := HH2.out.zero.cell 1
    have d2 : w2.cell? ⟨w.heap.size + 1, 2, none⟩ = some (.slice none 0 0) := HH2.out.zero.cell 2
    have f0 : w2.frozen? ⟨w.heap.size + 1, 0, none⟩ = false := HH2.out.zero.free 0
    have f1 : w2.frozen? ⟨w.heap.size + 1, 1, none⟩ = false := HH2.out.zero.free 1
    have f2 : w2.frozen? ⟨w.heap.size + 1, 2, none⟩ = false := HH2.out.zero.free 2
    go_wp2
    exact bodyPost_ret (v := .tuple #[.agg #[.int .i64 1, .slice none 0 0, .slice none 0 0], .bool true]) (by simp [results, Try.results38, go_sem, d0, d1, d2]) rfl (Or.inr ⟨_, _, hX.out, HH2.out.done (B := w.heap.size + 1 + 1) (OwnTy.leaf _ _ _) (by omega) _ _ _⟩)
  · have E73 := Lib.hid (eat_miss h73)
    have HC := Lib.hid (acc_no ps pa i s 73 wa HH0.out.rd (eat_miss h73))
    clear h73
    go_wp2_with fail
    refine HC.out.mono ?_
    rintro e w73 ⟨rfl, hr2, hg2⟩
    have HH73 := Lib.hid (HH0.out.read hr2 hg2)
    clear hr2 hg2 b0 HC
    have b0 : w73.cell? ⟨w.heap.size, 0, none⟩ = some (rdAcc ps pa) := HH73.out.rdr.cell 0
    by_cases h66 : ∃ hk : i < s.size, s[i] = 66
    · obtain ⟨hk, hc⟩ := h66
      have HC := Lib.hid (acc_yes ps pa i s 66 w73 HH73.out.rd hs hk hc)
      have hX := Lib.hid (show rdTy (n + 1) (restOf s i) = some (.mk 2 [] [], restOf s (i + 1)) by simp only [rdTy, E73.out, eat_hit hk hc])
      clear hc
      go_wp2_with fail
      refine HC.out.mono ?_
      rintro e w2 ⟨rfl, hr2, hg2⟩
      have HH2 := Lib.hid (HH73.out.read hr2 hg2)
      clear hr2 hg2 b0
      have d0 : w2.cell? ⟨w.heap.size + 1, 0, none⟩ = some (.int .i64 0) := HH2.out.zero.cell 0
      have d1 : w2.cell? ⟨w.heap.size + 1, 1, none⟩ = some (.slice none 0 0) := HH2.out.zero.cell 1
      have d2 : w2.cell? ⟨w.heap.size + 1, 2, none⟩ = some (.slice none 0 0) := HH2.out.zero.cell 2
      have f0 : w2.frozen? ⟨w.heap.size + 1, 0, none⟩ = false := HH2.out.zero.free 0
      have f1 : w2.frozen? ⟨w.heap.size + 1, 1, none⟩ = false := HH2.out.zero.free 1
      have f2 : w2.frozen? ⟨w.heap.size + 1, 2, none⟩ = false := HH2.out.zero.free 2
      go_wp2
      exact bodyPost_ret (v := .tuple #[.agg #[.int .i64 2, .slice none 0 0, .slice none 0 0], .bool true]) (by simp [results, Try.results38, go_sem, d0, d1, d2]) rfl (Or.inr ⟨_, _, hX.out, HH2.out.done (B := w.heap.size + 1 + 1) (OwnTy.leaf _ _ _) (by omega) _ _ _⟩)
    · have E66 := Lib.hid (eat_miss h66)
      have HC := Lib.hid (acc_no ps pa i s 66 w73 HH73.out.rd (eat_miss h66))
      clear h66
      go_wp2_with fail
      refine HC.out.mono ?_
      rintro e w66 ⟨rfl, hr2, hg2⟩
      have HH66 := Lib.hid (HH73.out.read hr2 hg2)
      clear hr2 hg2 b0 HC
      have b0 : w66.cell? ⟨w.heap.size, 0, none⟩ = some (rdAcc ps pa) := HH66.out.rdr.cell 0
      by_cases h123 : ∃ hk : i < s.size, s[i] = 123
      · obtain ⟨hk, hc⟩ := h123
        have HC := Lib.hid (acc_yes ps pa i s 123 w66 HH66.out.rd hs hk hc)
        have hX := Lib.hid (show rdTy (n + 1) (restOf s i) = rdBox (rdTy n) 3 125 (restOf s (i + 1)) by simp only [rdTy, E73.out, E66.out, eat_hit hk hc])
        clear hc
        go_wp2_with fail
        refine HC.out.mono ?_
        rintro e w2 ⟨rfl, hr2, hg2⟩
        have HH2 := Lib.hid (HH66.out.read hr2 hg2)
        clear hr2 hg2 b0
        have HL2 := Lib.hid (HL.out 3 w2 (i + 1) HH2.out.rd)
        have b0 : w2.cell? ⟨w.heap.size, 0, none⟩ = some (rdAcc ps pa) := HH2.out.rdr.cell 0
        have b1 : w2.cell? ⟨w.heap.size, 1, none⟩ = some (rdTak ps pa) := HH2.out.rdr.cell 1
        have b2 : w2.cell? ⟨w.heap.size, 2, none⟩ = some (rdEnd ps pa) := HH2.out.rdr.cell 2
        go_wp2_with fail
        refine HL2.out.mono ?_
        rintro e w3 (⟨hn, x, L5, n5, lc5, A5, m5, ac5, j5, rfl, hr5, hg5⟩ | ⟨ls, ts, q, hx, v, j5, rfl, hrr, hr5, hO5, hg5⟩)
        · have HX := Lib.hid (hX.out.trans (show rdBox (rdTy n) 3 125 (restOf s (i + 1)) = none by unfold rdBox; rw [hn]))
          have HH3 := Lib.hid (HH2.out.read hr5 hg5)
          clear hr5 hg5 hn hX b0 b1 b2 HC HL2
          go_upto_region 9 with fail
          have HH4 := Lib.hid (HH3.out.alloc (.cells #[.int .i64 x, .slice L5 n5 lc5, .slice A5 m5 ac5] 27))
          have HQ4 := Lib.hid (Whole1.new w3 27 #[.int .i64 x, .slice L5 n5 lc5, .slice A5 m5 ac5])
          have hq := HH3.out.zero.lt
          clear HH3
          generalize hgen : w3.alloc (.cells #[.int .i64 x, .slice L5 n5 lc5, .slice A5 m5 ac5] 27) = w4 at *
          clear hgen
          have d0 : w4.cell? ⟨w.heap.size + 1, 0, none⟩ = some (.int .i64 0) := HH4.out.zero.cell 0
          have d1 : w4.cell? ⟨w.heap.size + 1, 1, none⟩ = some (.slice none 0 0) := HH4.out.zero.cell 1
          have d2 : w4.cell? ⟨w.heap.size + 1, 2, none⟩ = some (.slice none 0 0) := HH4.out.zero.cell 2
          have f0 : w4.frozen? ⟨w.heap.size + 1, 0, none⟩ = false := HH4.out.zero.free 0
          have f1 : w4.frozen? ⟨w.heap.size + 1, 1, none⟩ = false := HH4.out.zero.free 1
          have f2 : w4.frozen? ⟨w.heap.size + 1, 2, none⟩ = false := HH4.out.zero.free 2
          have q0 : w4.cell? ⟨w3.heap.size, 0, none⟩ = some (.int .i64 x) := HQ4.out.cell 0
          have q1 : w4.cell? ⟨w3.heap.size, 1, none⟩ = some (.slice L5 n5 lc5) := HQ4.out.cell 1
          have q2 : w4.cell? ⟨w3.heap.size, 2, none⟩ = some (.slice A5 m5 ac5) := HQ4.out.cell 2
          have HH5 := Lib.hid HH4.out.drew
          clear HH4 HQ4
          go_region
          all_goals go_wp2
          all_goals exact bodyPost_ret (v := .tuple #[.agg #[.int .i64 x, .slice L5 n5 lc5, .slice A5 m5 ac5], .bool false]) (by simp [results, Try.results38, go_sem, d0, d1, d2]) rfl (Or.inl ⟨HX.out, HH5.out.fail x L5 A5 n5 lc5 m5 ac5 _ _ _⟩)
        · obtain ⟨L5, l5, A5, a5, rfl⟩ := hO5.open
          change OwnTy w3 w2.heap.size (.agg #[.int .i64 3, .slice L5 ls.length l5, .slice A5 ts.length a5]) (.mk 3 ls ts) at hO5
          have HR5 := Lib.hid hrr
          have HO5 := Lib.hid hO5
          have HX5 := Lib.hid hx
          have HH3 := Lib.hid (HH2.out.read hr5 hg5)
          have hw2 := HH2.out.zero.lt
          have hw3 := hg5.size
          clear hr5 hg5 hx hrr hO5 b0 b1 b2 HC HL2
          go_upto_region 9 with fail
          have HH4 := Lib.hid (HH3.out.alloc (.cells #[.int .i64 3, .slice L5 ls.length l5, .slice A5 ts.length a5] 27))
          have HQ4 := Lib.hid (Whole1.new w3 27 #[.int .i64 3, .slice L5 ls.length l5, .slice A5 ts.length a5])
          have HO4 := Lib.hid (HO5.out.keep (w' := w3.alloc (.cells #[.int .i64 3, .slice L5 ls.length l5, .slice A5 ts.length a5] 27)) (by simp) fun g _ hg => Below.heap_alloc _ _ _ hg)
          have hq := HH3.out.zero.lt
          clear HH3 HO5
          have hz4 : (w3.alloc (.cells #[.int .i64 3, .slice L5 ls.length l5, .slice A5 ts.length a5] 27)).heap.size = w3.heap.size + 1 := by simp
          simp only [Ty.kind, Ty.labels, Ty.args]
          generalize w3.alloc (.cells #[.int .i64 3, .slice L5 ls.length l5, .slice A5 ts.length a5] 27) = w4 at *
          have q0 : w4.cell? ⟨w3.heap.size, 0, none⟩ = some (.int .i64 3) := HQ4.out.cell 0
          have q1 : w4.cell? ⟨w3.heap.size, 1, none⟩ = some (.slice L5 ls.length l5) := HQ4.out.cell 1
          have q2 : w4.cell? ⟨w3.heap.size, 2, none⟩ = some (.slice A5 ts.length a5) := HQ4.out.cell 2
          have q3 : w4.cell? ⟨w.heap.size, 0, none⟩ = some (rdAcc ps pa) := HH4.out.rdr.cell 0
          have hne : w3.heap.size ≠ w.heap.size + 1 := by omega
          have hne2 : w.heap.size ≠ w.heap.size + 1 := by omega
          by_cases he : ∃ hk : j5 < s.size, s[j5] = 125
          · obtain ⟨hk5, hc5⟩ := he
            have HA := Lib.hid (acc_yes ps pa j5 s 125 w4.drew (HH4.out.rd.drewN 1) hs hk5 hc5)
            have HX := Lib.hid (hX.out.trans (show rdBox (rdTy n) 3 125 (restOf s (i + 1)) = some (.mk 3 ls ts, restOf s (j5 + 1)) by unfold rdBox; rw [HX5.out, HR5.out]; simp only [eat_hit hk5 hc5]))
            clear hc5 hX HX5
            go_region_held3 (fun x' : World => x'.cell? ⟨w3.heap.size, 0, none⟩ = some (.int .i64 3) ∧ x'.cell? ⟨w3.heap.size, 1, none⟩ = some (.slice L5 ls.length l5) ∧ x'.cell? ⟨w3.heap.size, 2, none⟩ = some (.slice A5 ts.length a5) ∧ x'.cell? ⟨w.heap.size, 0, none⟩ = some (rdAcc ps pa)) (first | exact ⟨q0, q1, q2, q3⟩ | exact ⟨y0, y1, y2, y3⟩ | exact ⟨(hs6 _ _ _ _).trans y0, (hs6 _ _ _ _).trans y1, (hs6 _ _ _ _).trans y2, (hs7 _ _ _ _).trans y3⟩ | go_keep) (first | (go_simp; go_at_call 72; (with_reducible refine HA.out.mono ?_); rintro e w6 ⟨rfl, hr6, hg6'⟩; have hg6 := grown_drew hg6'; have hH6 := HH4.out.read hr6 hg6; have d0 : w6.cell? ⟨w.heap.size + 1, 0, none⟩ = some (.int .i64 0) := hH6.zero.cell 0; have d1 : w6.cell? ⟨w.heap.size + 1, 1, none⟩ = some (.slice none 0 0) := hH6.zero.cell 1; have d2 : w6.cell? ⟨w.heap.size + 1, 2, none⟩ = some (.slice none 0 0) := hH6.zero.cell 2; have f0 : w6.frozen? ⟨w.heap.size + 1, 0, none⟩ = false := hH6.zero.free 0; have f1 : w6.frozen? ⟨w.heap.size + 1, 1, none⟩ = false := hH6.zero.free 1; have f2 : w6.frozen? ⟨w.heap.size + 1, 2, none⟩ = false := hH6.zero.free 2; have hQ6 : Whole1 w6 w3.heap.size 27 #[.int .i64 3, .slice L5 ls.length l5, .slice A5 ts.length a5] := (hg6.block _ HQ4.out.lt (fun e => by injection e with e; omega)).trans HQ4.out; have y0 : w6.cell? ⟨w3.heap.size, 0, none⟩ = some (.int .i64 3) := hQ6.cell 0; have y1 : w6.cell? ⟨w3.heap.size, 1, none⟩ = some (.slice L5 ls.length l5) := hQ6.cell 1; have y2 : w6.cell? ⟨w3.heap.size, 2, none⟩ = some (.slice A5 ts.length a5) := hQ6.cell 2; have y3 : w6.cell? ⟨w.heap.size, 0, none⟩ = some (rdAcc ps pa) := hH6.rdr.cell 0; have hs6 := fun a b c i => set3_cell w6 (w.heap.size + 1) a b c w3.heap.size i hne; have hs7 := fun a b c i => set3_cell w6 (w.heap.size + 1) a b c w.heap.size i hne2; have HH6 := Lib.hid hH6; have HO6 := Lib.hid (HO4.out.keep hg6.size fun g _ hg => hg6.block g hg (fun e => by injection e with e; omega)); clear hr6 hg6 hg6' hH6 hQ6))
            go_wp2
            exact bodyPost_ret (v := .tuple #[.agg #[.int .i64 3, .slice L5 ls.length l5, .slice A5 ts.length a5], .bool true]) (by simp [results, Try.results38, go_sem, d0, d1, d2]) rfl (Or.inr ⟨_, _, HX.out, HH6.out.done HO6.out (by omega) _ _ _⟩)
          · have HA := Lib.hid (acc_no ps pa j5 s 125 w4.drew (HH4.out.rd.drewN 1) (eat_miss he))
            have HX := Lib.hid (hX.out.trans (show rdBox (rdTy n) 3 125 (restOf s (i + 1)) = none by unfold rdBox; rw [HX5.out, HR5.out]; simp only [eat_miss he]))
            clear he hX HX5
            go_region_held3 (fun x' : World => x'.cell? ⟨w3.heap.size, 0, none⟩ = some (.int .i64 3) ∧ x'.cell? ⟨w3.heap.size, 1, none⟩ = some (.slice L5 ls.length l5) ∧ x'.cell? ⟨w3.heap.size, 2, none⟩ = some (.slice A5 ts.length a5) ∧ x'.cell? ⟨w.heap.size, 0, none⟩ = some (rdAcc ps pa)) (first | exact ⟨q0, q1, q2, q3⟩ | exact ⟨y0, y1, y2, y3⟩ | exact ⟨(hs6 _ _ _ _).trans y0, (hs6 _ _ _ _).trans y1, (hs6 _ _ _ _).trans y2, (hs7 _ _ _ _).trans y3⟩ | go_keep) (first | (go_simp; go_at_call 72; (with_reducible refine HA.out.mono ?_); rintro e w6 ⟨rfl, hr6, hg6'⟩; have hg6 := grown_drew hg6'; have hH6 := HH4.out.read hr6 hg6; have d0 : w6.cell? ⟨w.heap.size + 1, 0, none⟩ = some (.int .i64 0) := hH6.zero.cell 0; have d1 : w6.cell? ⟨w.heap.size + 1, 1, none⟩ = some (.slice none 0 0) := hH6.zero.cell 1; have d2 : w6.cell? ⟨w.heap.size + 1, 2, none⟩ = some (.slice none 0 0) := hH6.zero.cell 2; have f0 : w6.frozen? ⟨w.heap.size + 1, 0, none⟩ = false := hH6.zero.free 0; have f1 : w6.frozen? ⟨w.heap.size + 1, 1, none⟩ = false := hH6.zero.free 1; have f2 : w6.frozen? ⟨w.heap.size + 1, 2, none⟩ = false := hH6.zero.free 2; have hQ6 : Whole1 w6 w3.heap.size 27 #[.int .i64 3, .slice L5 ls.length l5, .slice A5 ts.length a5] := (hg6.block _ HQ4.out.lt (fun e => by injection e with e; omega)).trans HQ4.out; have y0 : w6.cell? ⟨w3.heap.size, 0, none⟩ = some (.int .i64 3) := hQ6.cell 0; have y1 : w6.cell? ⟨w3.heap.size, 1, none⟩ = some (.slice L5 ls.length l5) := hQ6.cell 1; have y2 : w6.cell? ⟨w3.heap.size, 2, none⟩ = some (.slice A5 ts.length a5) := hQ6.cell 2; have y3 : w6.cell? ⟨w.heap.size, 0, none⟩ = some (rdAcc ps pa) := hH6.rdr.cell 0; have hs6 := fun a b c i => set3_cell w6 (w.heap.size + 1) a b c w3.heap.size i hne; have hs7 := fun a b c i => set3_cell w6 (w.heap.size + 1) a b c w.heap.size i hne2; have HH6 := Lib.hid hH6; have HO6 := Lib.hid (HO4.out.keep hg6.size fun g _ hg => hg6.block g hg (fun e => by injection e with e; omega)); clear hr6 hg6 hg6' hH6 hQ6))
            go_wp2
            exact bodyPost_ret (v := .tuple #[.agg #[.int .i64 3, .slice L5 ls.length l5, .slice A5 ts.length a5], .bool false]) (by simp [results, Try.results38, go_sem, d0, d1, d2]) rfl (Or.inl ⟨HX.out, HH6.out.fail _ _ _ _ _ _ _ _ _ _⟩)
      · have E123 := Lib.hid (eat_miss h123)
        have HC := Lib.hid (acc_no ps pa i s 123 w66 HH66.out.rd (eat_miss h123))
        clear h123
        go_wp2_with fail
        refine HC.out.mono ?_
        rintro e w123 ⟨rfl, hr2, hg2⟩
        have HH123 := Lib.hid (HH66.out.read hr2 hg2)
        clear hr2 hg2 b0 HC
        have b0 : w123.cell? ⟨w.heap.size, 0, none⟩ = some (rdAcc ps pa) := HH123.out.rdr.cell 0
        by_cases h60 : ∃ hk : i < s.size, s[i] = 60
        · obtain ⟨hk, hc⟩ := h60
          have HC := Lib.hid (acc_yes ps pa i s 60 w123 HH123.out.rd hs hk hc)
          have hX := Lib.hid (show rdTy (n + 1) (restOf s i) = rdBox (rdTy n) 4 62 (restOf s (i + 1)) by simp only [rdTy, E73.out, E66.out, E123.out, eat_hit hk hc])
          clear hc
          go_wp2_with fail
          refine HC.out.mono ?_
          rintro e w2 ⟨rfl, hr2, hg2⟩
          have HH2 := Lib.hid (HH123.out.read hr2 hg2)
          clear hr2 hg2 b0
          have HL2 := Lib.hid (HL.out 4 w2 (i + 1) HH2.out.rd)
          have b0 : w2.cell? ⟨w.heap.size, 0, none⟩ = some (rdAcc ps pa) := HH2.out.rdr.cell 0
          have b1 : w2.cell? ⟨w.heap.size, 1, none⟩ = some (rdTak ps pa) := HH2.out.rdr.cell 1
          have b2 : w2.cell? ⟨w.heap.size, 2, none⟩ = some (rdEnd ps pa) := HH2.out.rdr.cell 2
          go_wp2_with fail
          refine HL2.out.mono ?_
          rintro e w3 (⟨hn, x, L5, n5, lc5, A5, m5, ac5, j5, rfl, hr5, hg5⟩ | ⟨ls, ts, q, hx, v, j5, rfl, hrr, hr5, hO5, hg5⟩)
          · have HX := Lib.hid (hX.out.trans (show rdBox (rdTy n) 4 62 (restOf s (i + 1)) = none by unfold rdBox; rw [hn]))
            have HH3 := Lib.hid (HH2.out.read hr5 hg5)
            clear hr5 hg5 hn hX b0 b1 b2 HC HL2
            go_upto_region 12 with fail
            have HH4 := Lib.hid (HH3.out.alloc (.cells #[.int .i64 x, .slice L5 n5 lc5, .slice A5 m5 ac5] 27))
            have HQ4 := Lib.hid (Whole1.new w3 27 #[.int .i64 x, .slice L5 n5 lc5, .slice A5 m5 ac5])
            have hq := HH3.out.zero.lt
            clear HH3
            generalize hgen : w3.alloc (.cells #[.int .i64 x, .slice L5 n5 lc5, .slice A5 m5 ac5] 27) = w4 at *
            clear hgen
            have d0 : w4.cell? ⟨w.heap.size + 1, 0, none⟩ = some (.int .i64 0) := HH4.out.zero.cell 0
            have d1 : w4.cell? ⟨w.heap.size + 1, 1, none⟩ = some (.slice none 0 0) := HH4.out.zero.cell 1
            have d2 : w4.cell? ⟨w.heap.size + 1, 2, none⟩ = some (.slice none 0 0) := HH4.out.zero.cell 2
            have f0 : w4.frozen? ⟨w.heap.size + 1, 0, none⟩ = false := HH4.out.zero.free 0
            have f1 : w4.frozen? ⟨w.heap.size + 1, 1, none⟩ = false := HH4.out.zero.free 1
            have f2 : w4.frozen? ⟨w.heap.size + 1, 2, none⟩ = false := HH4.out.zero.free 2
            have q0 : w4.cell? ⟨w3.heap.size, 0, none⟩ = some (.int .i64 x) := HQ4.out.cell 0
            have q1 : w4.cell? ⟨w3.heap.size, 1, none⟩ = some (.slice L5 n5 lc5) := HQ4.out.cell 1
            have q2 : w4.cell? ⟨w3.heap.size, 2, none⟩ = some (.slice A5 m5 ac5) := HQ4.out.cell 2
            have HH5 := Lib.hid HH4.out.drew
            clear HH4 HQ4
            go_region
            all_goals go_wp2
            all_goals exact bodyPost_ret (v := .tuple #[.agg #[.int .i64 x, .slice L5 n5 lc5, .slice A5 m5 ac5], .bool false]) (by simp [results, Try.results38, go_sem, d0, d1, d2]) rfl (Or.inl ⟨HX.out, HH5.out.fail x L5 A5 n5 lc5 m5 ac5 _ _ _⟩)
          · obtain ⟨L5, l5, A5, a5, rfl⟩ := hO5.open
            change OwnTy w3 w2.heap.size (.agg #[.int .i64 4, .slice L5 ls.length l5, .slice A5 ts.length a5]) (.mk 4 ls ts) at hO5
            have HR5 := Lib.hid hrr
            have HO5 := Lib.hid hO5
            have HX5 := Lib.hid hx
            have HH3 := Lib.hid (HH2.out.read hr5 hg5)
            have hw2 := HH2.out.zero.lt
            have hw3 := hg5.size
            clear hr5 hg5 hx hrr hO5 b0 b1 b2 HC HL2
            go_upto_region 12 with fail
            have HH4 := Lib.hid (HH3.out.alloc (.cells #[.int .i64 4, .slice L5 ls.length l5, .slice A5 ts.length a5] 27))
            have HQ4 := Lib.hid (Whole1.new w3 27 #[.int .i64 4, .slice L5 ls.length l5, .slice A5 ts.length a5])
            have HO4 := Lib.hid (HO5.out.keep (w' := w3.alloc (.cells #[.int .i64 4, .slice L5 ls.length l5, .slice A5 ts.length a5] 27)) (by simp) fun g _ hg => Below.heap_alloc _ _ _ hg)
            have hq := HH3.out.zero.lt
            clear HH3 HO5
            have hz4 : (w3.alloc (.cells #[.int .i64 4, .slice L5 ls.length l5, .slice A5 ts.length a5] 27)).heap.size = w3.heap.size + 1 := by simp
            simp only [Ty.kind, Ty.labels, Ty.args]
            generalize w3.alloc (.cells #[.int .i64 4, .slice L5 ls.length l5, .slice A5 ts.length a5] 27) = w4 at *
            have q0 : w4.cell? ⟨w3.heap.size, 0, none⟩ = some (.int .i64 4) := HQ4.out.cell 0
            have q1 : w4.cell? ⟨w3.heap.size, 1, none⟩ = some (.slice L5 ls.length l5) := HQ4.out.cell 1
            have q2 : w4.cell? ⟨w3.heap.size, 2, none⟩ = some (.slice A5 ts.length a5) := HQ4.out.cell 2
            have q3 : w4.cell? ⟨w.heap.size, 0, none⟩ = some (rdAcc ps pa) := HH4.out.rdr.cell 0
            have hne : w3.heap.size ≠ w.heap.size + 1 := by omega
            have hne2 : w.heap.size ≠ w.heap.size + 1 := by omega
            by_cases he : ∃ hk : j5 < s.size, s[j5] = 62
            · obtain ⟨hk5, hc5⟩ := he
              have HA := Lib.hid (acc_yes ps pa j5 s 62 w4.drew (HH4.out.rd.drewN 1) hs hk5 hc5)
              have HX := Lib.hid (hX.out.trans (show rdBox (rdTy n) 4 62 (restOf s (i + 1)) = some (.mk 4 ls ts, restOf s (j5 + 1)) by unfold rdBox; rw [HX5.out, HR5.out]; simp only [eat_hit hk5 hc5]))
              clear hc5 hX HX5
              go_region_held3 (fun x' : World => x'.cell? ⟨w3.heap.size, 0, none⟩ = some (.int .i64 4) ∧ x'.cell? ⟨w3.heap.size, 1, none⟩ = some (.slice L5 ls.length l5) ∧ x'.cell? ⟨w3.heap.size, 2, none⟩ = some (.slice A5 ts.length a5) ∧ x'.cell? ⟨w.heap.size, 0, none⟩ = some (rdAcc ps pa)) (first | exact ⟨q0, q1, q2, q3⟩ | exact ⟨y0, y1, y2, y3⟩ | exact ⟨(hs6 _ _ _ _).trans y0, (hs6 _ _ _ _).trans y1, (hs6 _ _ _ _).trans y2, (hs7 _ _ _ _).trans y3⟩ | go_keep) (first | (go_simp; go_at_call 72; (with_reducible refine HA.out.mono ?_); rintro e w6 ⟨rfl, hr6, hg6'⟩; have hg6 := grown_drew hg6'; have hH6 := HH4.out.read hr6 hg6; have d0 : w6.cell? ⟨w.heap.size + 1, 0, none⟩ = some (.int .i64 0) := hH6.zero.cell 0; have d1 : w6.cell? ⟨w.heap.size + 1, 1, none⟩ = some (.slice none 0 0) := hH6.zero.cell 1; have d2 : w6.cell? ⟨w.heap.size + 1, 2, none⟩ = some (.slice none 0 0) := hH6.zero.cell 2; have f0 : w6.frozen? ⟨w.heap.size + 1, 0, none⟩ = false := hH6.zero.free 0; have f1 : w6.frozen? ⟨w.heap.size + 1, 1, none⟩ = false := hH6.zero.free 1; have f2 : w6.frozen? ⟨w.heap.size + 1, 2, none⟩ = false := hH6.zero.free 2; have hQ6 : Whole1 w6 w3.heap.size 27 #[.int .i64 4, .slice L5 ls.length l5, .slice A5 ts.length a5] := (hg6.block _ HQ4.out.lt (fun e => by injection e with e; omega)).trans HQ4.out; have y0 : w6.cell? ⟨w3.heap.size, 0, none⟩ = some (.int .i64 4) := hQ6.cell 0; have y1 : w6.cell? ⟨w3.heap.size, 1, none⟩ = some (.slice L5 ls.length l5) := hQ6.cell 1; have y2 : w6.cell? ⟨w3.heap.size, 2, none⟩ = some (.slice A5 ts.length a5) := hQ6.cell 2; have y3 : w6.cell? ⟨w.heap.size, 0, none⟩ = some (rdAcc ps pa) := hH6.rdr.cell 0; have hs6 := fun a b c i => set3_cell w6 (w.heap.size + 1) a b c w3.heap.size i hne; have hs7 := fun a b c i => set3_cell w6 (w.heap.size + 1) a b c w.heap.size i hne2; have HH6 := Lib.hid hH6; have HO6 := Lib.hid (HO4.out.keep hg6.size fun g _ hg => hg6.block g hg (fun e => by injection e with e; omega)); clear hr6 hg6 hg6' hH6 hQ6))
              go_wp2
              exact bodyPost_ret (v := .tuple #[.agg #[.int .i64 4, .slice L5 ls.length l5, .slice A5 ts.length a5], .bool true]) (by simp [results, Try.results38, go_sem, d0, d1, d2]) rfl (Or.inr ⟨_, _, HX.out, HH6.out.done HO6.out (by omega) _ _ _⟩)
            · have HA := Lib.hid (acc_no ps pa j5 s 62 w4.drew (HH4.out.rd.drewN 1) (eat_miss he))
              have HX := Lib.hid (hX.out.trans (show rdBox (rdTy n) 4 62 (restOf s (i + 1)) = none by unfold rdBox; rw [HX5.out, HR5.out]; simp only [eat_miss he]))
              clear he hX HX5
              go_region_held3 (fun x' : World => x'.cell? ⟨w3.heap.size, 0, none⟩ = some (.int .i64 4) ∧ x'.cell? ⟨w3.heap.size, 1, none⟩ = some (.slice L5 ls.length l5) ∧ x'.cell? ⟨w3.heap.size, 2, none⟩ = some (.slice A5 ts.length a5) ∧ x'.cell? ⟨w.heap.size, 0, none⟩ = some (rdAcc ps pa)) (first | exact ⟨q0, q1, q2, q3⟩ | exact ⟨y0, y1, y2, y3⟩ | exact ⟨(hs6 _ _ _ _).trans y0, (hs6 _ _ _ _).trans y1, (hs6 _ _ _ _).trans y2, (hs7 _ _ _ _).trans y3⟩ | go_keep) (first | (go_simp; go_at_call 72; (with_reducible refine HA.out.mono ?_); rintro e w6 ⟨rfl, hr6, hg6'⟩; have hg6 := grown_drew hg6'; have hH6 := HH4.out.read hr6 hg6; have d0 : w6.cell? ⟨w.heap.size + 1, 0, none⟩ = some (.int .i64 0) := hH6.zero.cell 0; have d1 : w6.cell? ⟨w.heap.size + 1, 1, none⟩ = some (.slice none 0 0) := hH6.zero.cell 1; have d2 : w6.cell? ⟨w.heap.size + 1, 2, none⟩ = some (.slice none 0 0) := hH6.zero.cell 2; have f0 : w6.frozen? ⟨w.heap.size + 1, 0, none⟩ = false := hH6.zero.free 0; have f1 : w6.frozen? ⟨w.heap.size + 1, 1, none⟩ = false := hH6.zero.free 1; have f2 : w6.frozen? ⟨w.heap.size + 1, 2, none⟩ = false := hH6.zero.free 2; have hQ6 : Whole1 w6 w3.heap.size 27 #[.int .i64 4, .slice L5 ls.length l5, .slice A5 ts.length a5] := (hg6.block _ HQ4.out.lt (fun e => by injection e with e; omega)).trans HQ4.out; have y0 : w6.cell? ⟨w3.heap.size, 0, none⟩ = some (.int .i64 4) := hQ6.cell 0; have y1 : w6.cell? ⟨w3.heap.size, 1, none⟩ = some (.slice L5 ls.length l5) := hQ6.cell 1; have y2 : w6.cell? ⟨w3.heap.size, 2, none⟩ = some (.slice A5 ts.length a5) := hQ6.cell 2; have y3 : w6.cell? ⟨w.heap.size, 0, none⟩ = some (rdAcc ps pa) := hH6.rdr.cell 0; have hs6 := fun a b c i => set3_cell w6 (w.heap.size + 1) a b c w3.heap.size i hne; have hs7 := fun a b c i => set3_cell w6 (w.heap.size + 1) a b c w.heap.size i hne2; have HH6 := Lib.hid hH6; have HO6 := Lib.hid (HO4.out.keep hg6.size fun g _ hg => hg6.block g hg (fun e => by injection e with e; omega)); clear hr6 hg6 hg6' hH6 hQ6))
              go_wp2
              exact bodyPost_ret (v := .tuple #[.agg #[.int .i64 4, .slice L5 ls.length l5, .slice A5 ts.length a5], .bool false]) (by simp [results, Try.results38, go_sem, d0, d1, d2]) rfl (Or.inl ⟨HX.out, HH6.out.fail _ _ _ _ _ _ _ _ _ _⟩)
        · have E60 := Lib.hid (eat_miss h60)
          have HC := Lib.hid (acc_no ps pa i s 60 w123 HH123.out.rd (eat_miss h60))
          clear h60
          go_wp2_with fail
          refine HC.out.mono ?_
          rintro e w60 ⟨rfl, hr2, hg2⟩
          have HH60 := Lib.hid (HH123.out.read hr2 hg2)
          clear hr2 hg2 b0 HC
          have b0 : w60.cell? ⟨w.heap.size, 0, none⟩ = some (rdAcc ps pa) := HH60.out.rdr.cell 0
          by_cases h91 : ∃ hk : i < s.size, s[i] = 91
          · obtain ⟨hk, hc⟩ := h91
            have HC := Lib.hid (acc_yes ps pa i s 91 w60 HH60.out.rd hs hk hc)
            have hX : Hid (∀ x, rdTy n (restOf s (i + 1)) = x → rdTy (n + 1) (restOf s i) = match x with | none => none | some (t, r1) => match eat 93 r1 with | none => none | some r2 => some (.mk 5 [] [t], r2)) := Lib.hid fun x hx => by
              subst hx
              simp only [rdTy, E73.out, E66.out, E123.out, E60.out, eat_hit hk hc]
              rcases rdTy n (restOf s (i + 1)) with _ | ⟨t, r1⟩
              · rfl
              · rfl
            clear hc
            go_wp2_with fail
            refine HC.out.mono ?_
            rintro e w2 ⟨rfl, hr2, hg2⟩
            have HH2 := Lib.hid (HH60.out.read hr2 hg2)
            clear hr2 hg2 b0
            have HT2 := Lib.hid (HB.out w2 ps pa (i + 1) s HH2.out.rd hs)
            have b0 : w2.cell? ⟨w.heap.size, 0, none⟩ = some (rdAcc ps pa) := HH2.out.rdr.cell 0
            have b1 : w2.cell? ⟨w.heap.size, 1, none⟩ = some (rdTak ps pa) := HH2.out.rdr.cell 1
            have b2 : w2.cell? ⟨w.heap.size, 2, none⟩ = some (rdEnd ps pa) := HH2.out.rdr.cell 2
            go_wp2_with fail
            refine HT2.out.mono ?_
            rintro e w3 (⟨hn, x, L5, n5, lc5, A5, m5, ac5, j5, rfl, hr5, hg5⟩ | ⟨t, q, hx, v, j5, rfl, hrr, hr5, hO5, hg5⟩)
            · have HX := Lib.hid (hX.out _ hn)
              have HH3 := Lib.hid (HH2.out.read hr5 hg5)
              clear hr5 hg5 hn hX b0 b1 b2 HC HT2
              go_upto_region 15 with fail
              have HH4 := Lib.hid (HH3.out.alloc (.cells #[.int .i64 x, .slice L5 n5 lc5, .slice A5 m5 ac5] 27))
              have HQ4 := Lib.hid (Whole1.new w3 27 #[.int .i64 x, .slice L5 n5 lc5, .slice A5 m5 ac5])
              have hq := HH3.out.zero.lt
              clear HH3
              generalize hgen : w3.alloc (.cells #[.int .i64 x, .slice L5 n5 lc5, .slice A5 m5 ac5] 27) = w4 at *
              clear hgen
              have q0 : w4.cell? ⟨w3.heap.size, 0, none⟩ = some (.int .i64 x) := HQ4.out.cell 0
              have q1 : w4.cell? ⟨w3.heap.size, 1, none⟩ = some (.slice L5 n5 lc5) := HQ4.out.cell 1
              have q2 : w4.cell? ⟨w3.heap.size, 2, none⟩ = some (.slice A5 m5 ac5) := HQ4.out.cell 2
              have HH5 := Lib.hid (HH4.out.alloc (.cells #[.int .i64 x, .slice L5 n5 lc5, .slice A5 m5 ac5] 27))
              have d0 : (w4.alloc (.cells #[.int .i64 x, .slice L5 n5 lc5, .slice A5 m5 ac5] 27)).cell? ⟨w.heap.size + 1, 0, none⟩ = some (.int .i64 0) := HH5.out.zero.cell 0
              have d1 : (w4.alloc (.cells #[.int .i64 x, .slice L5 n5 lc5, .slice A5 m5 ac5] 27)).cell? ⟨w.heap.size + 1, 1, none⟩ = some (.slice none 0 0) := HH5.out.zero.cell 1
              have d2 : (w4.alloc (.cells #[.int .i64 x, .slice L5 n5 lc5, .slice A5 m5 ac5] 27)).cell? ⟨w.heap.size + 1, 2, none⟩ = some (.slice none 0 0) := HH5.out.zero.cell 2
              have f0 : (w4.alloc (.cells #[.int .i64 x, .slice L5 n5 lc5, .slice A5 m5 ac5] 27)).frozen? ⟨w.heap.size + 1, 0, none⟩ = false := HH5.out.zero.free 0
              have f1 : (w4.alloc (.cells #[.int .i64 x, .slice L5 n5 lc5, .slice A5 m5 ac5] 27)).frozen? ⟨w.heap.size + 1, 1, none⟩ = false := HH5.out.zero.free 1
              have f2 : (w4.alloc (.cells #[.int .i64 x, .slice L5 n5 lc5, .slice A5 m5 ac5] 27)).frozen? ⟨w.heap.size + 1, 2, none⟩ = false := HH5.out.zero.free 2
              have HH6 := Lib.hid HH5.out.drew
              clear HH4 HQ4 HH5
              go_region
              all_goals go_wp2
              all_goals exact bodyPost_ret (v := .tuple #[.agg #[.int .i64 5, .slice none 0 0, .slice (some ⟨w4.heap.size, 0, none⟩) 1 1], .bool false]) (by simp [results, Try.results38, go_sem, d0, d1, d2]) rfl (Or.inl ⟨HX.out, HH6.out.fail 5 none (some ⟨w4.heap.size, 0, none⟩) 0 0 1 1 _ _ _⟩)
            · obtain ⟨L5, l5, A5, a5, rfl⟩ := hO5.open
              have HR5 := Lib.hid hrr
              have HO5 := Lib.hid hO5.owned
              have HX5 := Lib.hid hx
              have HH3 := Lib.hid (HH2.out.read hr5 hg5)
              have hw2 := HH2.out.zero.lt
              have hw3 := hg5.size
              clear hr5 hg5 hx hrr hO5 b0 b1 b2 HC HT2
              go_upto_region 15 with fail
              have HH4 := Lib.hid (HH3.out.alloc (.cells #[.int .i64 t.kind, .slice L5 t.labels.length l5, .slice A5 t.args.length a5] 27))
              have HQ4 := Lib.hid (Whole1.new w3 27 #[.int .i64 t.kind, .slice L5 t.labels.length l5, .slice A5 t.args.length a5])
              have HO4 := Lib.hid (HO5.out.keep (w' := w3.alloc (.cells #[.int .i64 t.kind, .slice L5 t.labels.length l5, .slice A5 t.args.length a5] 27)) fun g hg _ => Below.heap_alloc _ _ _ hg.2)
              have hq := HH3.out.zero.lt
              clear HH3 HO5
              have hz4 : (w3.alloc (.cells #[.int .i64 t.kind, .slice L5 t.labels.length l5, .slice A5 t.args.length a5] 27)).heap.size = w3.heap.size + 1 := by simp
              generalize w3.alloc (.cells #[.int .i64 t.kind, .slice L5 t.labels.length l5, .slice A5 t.args.length a5] 27) = w4 at *
              have q0 : w4.cell? ⟨w3.heap.size, 0, none⟩ = some (.int .i64 t.kind) := HQ4.out.cell 0
              have q1 : w4.cell? ⟨w3.heap.size, 1, none⟩ = some (.slice L5 t.labels.length l5) := HQ4.out.cell 1
              have q2 : w4.cell? ⟨w3.heap.size, 2, none⟩ = some (.slice A5 t.args.length a5) := HQ4.out.cell 2
              have q3 : w4.cell? ⟨w.heap.size, 0, none⟩ = some (rdAcc ps pa) := HH4.out.rdr.cell 0
              have HHa := Lib.hid (HH4.out.alloc (.cells #[.int .i64 t.kind, .slice L5 t.labels.length l5, .slice A5 t.args.length a5] 27))
              have HQa := Lib.hid (HQ4.out.below ((Below.refl w4.heap.size w4).alloc (Nat.le_refl _) (.cells #[.int .i64 t.kind, .slice L5 t.labels.length l5, .slice A5 t.args.length a5] 27)) HQ4.out.lt)
              have qa0 : (w4.alloc (.cells #[.int .i64 t.kind, .slice L5 t.labels.length l5, .slice A5 t.args.length a5] 27)).cell? ⟨w3.heap.size, 0, none⟩ = some (.int .i64 t.kind) := HQa.out.cell 0
              have qa1 : (w4.alloc (.cells #[.int .i64 t.kind, .slice L5 t.labels.length l5, .slice A5 t.args.length a5] 27)).cell? ⟨w3.heap.size, 1, none⟩ = some (.slice L5 t.labels.length l5) := HQa.out.cell 1
              have qa2 : (w4.alloc (.cells #[.int .i64 t.kind, .slice L5 t.labels.length l5, .slice A5 t.args.length a5] 27)).cell? ⟨w3.heap.size, 2, none⟩ = some (.slice A5 t.args.length a5) := HQa.out.cell 2
              have qa3 : (w4.alloc (.cells #[.int .i64 t.kind, .slice L5 t.labels.length l5, .slice A5 t.args.length a5] 27)).cell? ⟨w.heap.size, 0, none⟩ = some (rdAcc ps pa) := HHa.out.rdr.cell 0
              obtain ⟨xsa, vsa, loa, hia, hOa⟩ := own_list (base := w.heap.size + 1 + 1) (lo0 := w2.heap.size) (hi0 := w3.heap.size) (by omega) (by omega) (by omega) HO4.out
              have HOa := Lib.hid hOa
              clear hOa
              have hne : w3.heap.size ≠ w.heap.size + 1 := by omega
              have hne2 : w.heap.size ≠ w.heap.size + 1 := by omega
              by_cases he : ∃ hk : j5 < s.size, s[j5] = 93
              · obtain ⟨hk5, hc5⟩ := he
                have HA1 := Lib.hid (acc_yes ps pa j5 s 93 w4.drew (HH4.out.rd.drewN 1) hs hk5 hc5)
                have HA2 := Lib.hid (acc_yes ps pa j5 s 93 (w4.alloc (.cells #[.int .i64 t.kind, .slice L5 t.labels.length l5, .slice A5 t.args.length a5] 27)).drew (HHa.out.rd.drewN 1) hs hk5 hc5)
                have HX := Lib.hid ((hX.out _ HX5.out).trans (show _ = some (.mk 5 [] [t], restOf s (j5 + 1)) by rw [HR5.out]; simp only [eat_hit hk5 hc5]))
                clear hc5 hX HX5
                go_region_held3 (fun x' : World => x'.cell? ⟨w3.heap.size, 0, none⟩ = some (.int .i64 t.kind) ∧ x'.cell? ⟨w3.heap.size, 1, none⟩ = some (.slice L5 t.labels.length l5) ∧ x'.cell? ⟨w3.heap.size, 2, none⟩ = some (.slice A5 t.args.length a5) ∧ x'.cell? ⟨w.heap.size, 0, none⟩ = some (rdAcc ps pa)) (first | exact ⟨q0, q1, q2, q3⟩ | exact ⟨qa0, qa1, qa2, qa3⟩ | exact ⟨y0, y1, y2, y3⟩ | exact ⟨yy0, yy1, yy2, yy3⟩ | exact ⟨(hs6 _ _ _ _).trans y0, (hs6 _ _ _ _).trans y1, (hs6 _ _ _ _).trans y2, (hs7 _ _ _ _).trans y3⟩ | exact ⟨(hs6 _ _ _ _).trans yy0, (hs6 _ _ _ _).trans yy1, (hs6 _ _ _ _).trans yy2, (hs7 _ _ _ _).trans yy3⟩ | go_keep) (first | (go_simp; go_at_call 72; (with_reducible refine HA1.out.mono ?_); rintro e w6 ⟨rfl, hr6, hg6'⟩; have hg6 := grown_drew hg6'; have hH6 := HH4.out.read hr6 hg6; have hQ6 : Whole1 w6 w3.heap.size 27 #[.int .i64 t.kind, .slice L5 t.labels.length l5, .slice A5 t.args.length a5] := (hg6.block _ HQ4.out.lt (fun e => by injection e with e; omega)).trans HQ4.out; have y0 : w6.cell? ⟨w3.heap.size, 0, none⟩ = some (.int .i64 t.kind) := hQ6.cell 0; have y1 : w6.cell? ⟨w3.heap.size, 1, none⟩ = some (.slice L5 t.labels.length l5) := hQ6.cell 1; have y2 : w6.cell? ⟨w3.heap.size, 2, none⟩ = some (.slice A5 t.args.length a5) := hQ6.cell 2; have y3 : w6.cell? ⟨w.heap.size, 0, none⟩ = some (rdAcc ps pa) := hH6.rdr.cell 0; have hT6 := HO4.out.keep (w' := w6) (fun g hg hl => hg6.block g hl (fun e => by injection e with e; have := hg.1; omega)); have hz6 := hg6.size; have hb7 := (Below.refl w6.heap.size w6).alloc (Nat.le_refl _) (.cells #[.int .i64 t.kind, .slice L5 t.labels.length l5, .slice A5 t.args.length a5] 27); have hH7 := hH6.alloc (.cells #[.int .i64 t.kind, .slice L5 t.labels.length l5, .slice A5 t.args.length a5] 27); have hQ7 := hQ6.below hb7 hQ6.lt; have yy0 : (w6.alloc (.cells #[.int .i64 t.kind, .slice L5 t.labels.length l5, .slice A5 t.args.length a5] 27)).cell? ⟨w3.heap.size, 0, none⟩ = some (.int .i64 t.kind) := hQ7.cell 0; have yy1 : (w6.alloc (.cells #[.int .i64 t.kind, .slice L5 t.labels.length l5, .slice A5 t.args.length a5] 27)).cell? ⟨w3.heap.size, 1, none⟩ = some (.slice L5 t.labels.length l5) := hQ7.cell 1; have yy2 : (w6.alloc (.cells #[.int .i64 t.kind, .slice L5 t.labels.length l5, .slice A5 t.args.length a5] 27)).cell? ⟨w3.heap.size, 2, none⟩ = some (.slice A5 t.args.length a5) := hQ7.cell 2; have yy3 : (w6.alloc (.cells #[.int .i64 t.kind, .slice L5 t.labels.length l5, .slice A5 t.args.length a5] 27)).cell? ⟨w.heap.size, 0, none⟩ = some (rdAcc ps pa) := hH7.rdr.cell 0; have d0 : (w6.alloc (.cells #[.int .i64 t.kind, .slice L5 t.labels.length l5, .slice A5 t.args.length a5] 27)).cell? ⟨w.heap.size + 1, 0, none⟩ = some (.int .i64 0) := hH7.zero.cell 0; have d1 : (w6.alloc (.cells #[.int .i64 t.kind, .slice L5 t.labels.length l5, .slice A5 t.args.length a5] 27)).cell? ⟨w.heap.size + 1, 1, none⟩ = some (.slice none 0 0) := hH7.zero.cell 1; have d2 : (w6.alloc (.cells #[.int .i64 t.kind, .slice L5 t.labels.length l5, .slice A5 t.args.length a5] 27)).cell? ⟨w.heap.size + 1, 2, none⟩ = some (.slice none 0 0) := hH7.zero.cell 2; have f0 : (w6.alloc (.cells #[.int .i64 t.kind, .slice L5 t.labels.length l5, .slice A5 t.args.length a5] 27)).frozen? ⟨w.heap.size + 1, 0, none⟩ = false := hH7.zero.free 0; have f1 : (w6.alloc (.cells #[.int .i64 t.kind, .slice L5 t.labels.length l5, .slice A5 t.args.length a5] 27)).frozen? ⟨w.heap.size + 1, 1, none⟩ = false := hH7.zero.free 1; have f2 : (w6.alloc (.cells #[.int .i64 t.kind, .slice L5 t.labels.length l5, .slice A5 t.args.length a5] 27)).frozen? ⟨w.heap.size + 1, 2, none⟩ = false := hH7.zero.free 2; have hs6 := fun a b c i => set3_cell ((w6.alloc (.cells #[.int .i64 t.kind, .slice L5 t.labels.length l5, .slice A5 t.args.length a5] 27))) (w.heap.size + 1) a b c w3.heap.size i hne; have hs7 := fun a b c i => set3_cell ((w6.alloc (.cells #[.int .i64 t.kind, .slice L5 t.labels.length l5, .slice A5 t.args.length a5] 27))) (w.heap.size + 1) a b c w.heap.size i hne2; obtain ⟨xsb, vsb, lob, hib, hOb⟩ := own_list (base := w.heap.size + 1 + 1) (lo0 := w2.heap.size) (hi0 := w3.heap.size) (by omega) (by omega) (by omega) hT6; have HO7 := Lib.hid hOb.own; have HH7 := Lib.hid hH7; clear hr6 hg6 hg6' hH6 hQ6 hT6 hb7 hH7 hQ7 hOb) | (go_simp; go_at_call 72; (with_reducible refine HA2.out.mono ?_); rintro e w6 ⟨rfl, hr6, hg6'⟩; have hg6 := grown_drew hg6'; have hH6 := HHa.out.read hr6 hg6; have hQ6 : Whole1 w6 w3.heap.size 27 #[.int .i64 t.kind, .slice L5 t.labels.length l5, .slice A5 t.args.length a5] := (hg6.block _ HQa.out.lt (fun e => by injection e with e; omega)).trans HQa.out; have y0 : w6.cell? ⟨w3.heap.size, 0, none⟩ = some (.int .i64 t.kind) := hQ6.cell 0; have y1 : w6.cell? ⟨w3.heap.size, 1, none⟩ = some (.slice L5 t.labels.length l5) := hQ6.cell 1; have y2 : w6.cell? ⟨w3.heap.size, 2, none⟩ = some (.slice A5 t.args.length a5) := hQ6.cell 2; have y3 : w6.cell? ⟨w.heap.size, 0, none⟩ = some (rdAcc ps pa) := hH6.rdr.cell 0; have d0 : w6.cell? ⟨w.heap.size + 1, 0, none⟩ = some (.int .i64 0) := hH6.zero.cell 0; have d1 : w6.cell? ⟨w.heap.size + 1, 1, none⟩ = some (.slice none 0 0) := hH6.zero.cell 1; have d2 : w6.cell? ⟨w.heap.size + 1, 2, none⟩ = some (.slice none 0 0) := hH6.zero.cell 2; have f0 : w6.frozen? ⟨w.heap.size + 1, 0, none⟩ = false := hH6.zero.free 0; have f1 : w6.frozen? ⟨w.heap.size + 1, 1, none⟩ = false := hH6.zero.free 1; have f2 : w6.frozen? ⟨w.heap.size + 1, 2, none⟩ = false := hH6.zero.free 2; have hs6 := fun a b c i => set3_cell (w6) (w.heap.size + 1) a b c w3.heap.size i hne; have hs7 := fun a b c i => set3_cell (w6) (w.heap.size + 1) a b c w.heap.size i hne2; have HO6 := Lib.hid (HOa.out.grown hg6 (by omega)).own; have HH6 := Lib.hid hH6; clear hr6 hg6 hg6' hH6 hQ6))
                all_goals go_wp2
                all_goals first
                  | exact bodyPost_ret (v := .tuple #[.agg #[.int .i64 5, .slice none 0 0, .slice (some ⟨w4.heap.size, 0, none⟩) 1 1], .bool true]) (by simp [results, Try.results38, go_sem, d0, d1, d2]) rfl (Or.inr ⟨_, _, HX.out, HH6.out.done HO6.out (by omega) _ _ _⟩)
                  | exact bodyPost_ret (v := .tuple #[.agg #[.int .i64 5, .slice none 0 0, .slice (some ⟨w6.heap.size, 0, none⟩) 1 1], .bool true]) (by simp [results, Try.results38, go_sem, d0, d1, d2]) rfl (Or.inr ⟨_, _, HX.out, HH7.out.done HO7.out (by omega) _ _ _⟩)
              · have HA1 := Lib.hid (acc_no ps pa j5 s 93 w4.drew (HH4.out.rd.drewN 1) (eat_miss he))
                have HA2 := Lib.hid (acc_no ps pa j5 s 93 (w4.alloc (.cells #[.int .i64 t.kind, .slice L5 t.labels.length l5, .slice A5 t.args.length a5] 27)).drew (HHa.out.rd.drewN 1) (eat_miss he))
                have HX := Lib.hid ((hX.out _ HX5.out).trans (show _ = none by rw [HR5.out]; simp only [eat_miss he]))
                clear he hX HX5
                go_region_held3 (fun x' : World => x'.cell? ⟨w3.heap.size, 0, none⟩ = some (.int .i64 t.kind) ∧ x'.cell? ⟨w3.heap.size, 1, none⟩ = some (.slice L5 t.labels.length l5) ∧ x'.cell? ⟨w3.heap.size, 2, none⟩ = some (.slice A5 t.args.length a5) ∧ x'.cell? ⟨w.heap.size, 0, none⟩ = some (rdAcc ps pa)) (first | exact ⟨q0, q1, q2, q3⟩ | exact ⟨qa0, qa1, qa2, qa3⟩ | exact ⟨y0, y1, y2, y3⟩ | exact ⟨yy0, yy1, yy2, yy3⟩ | exact ⟨(hs6 _ _ _ _).trans y0, (hs6 _ _ _ _).trans y1, (hs6 _ _ _ _).trans y2, (hs7 _ _ _ _).trans y3⟩ | exact ⟨(hs6 _ _ _ _).trans yy0, (hs6 _ _ _ _).trans yy1, (hs6 _ _ _ _).trans yy2, (hs7 _ _ _ _).trans yy3⟩ | go_keep) (first | (go_simp; go_at_call 72; (with_reducible refine HA1.out.mono ?_); rintro e w6 ⟨rfl, hr6, hg6'⟩; have hg6 := grown_drew hg6'; have hH6 := HH4.out.read hr6 hg6; have hQ6 : Whole1 w6 w3.heap.size 27 #[.int .i64 t.kind, .slice L5 t.labels.length l5, .slice A5 t.args.length a5] := (hg6.block _ HQ4.out.lt (fun e => by injection e with e; omega)).trans HQ4.out; have y0 : w6.cell? ⟨w3.heap.size, 0, none⟩ = some (.int .i64 t.kind) := hQ6.cell 0; have y1 : w6.cell? ⟨w3.heap.size, 1, none⟩ = some (.slice L5 t.labels.length l5) := hQ6.cell 1; have y2 : w6.cell? ⟨w3.heap.size, 2, none⟩ = some (.slice A5 t.args.length a5) := hQ6.cell 2; have y3 : w6.cell? ⟨w.heap.size, 0, none⟩ = some (rdAcc ps pa) := hH6.rdr.cell 0; have hT6 := HO4.out.keep (w' := w6) (fun g hg hl => hg6.block g hl (fun e => by injection e with e; have := hg.1; omega)); have hz6 := hg6.size; have hb7 := (Below.refl w6.heap.size w6).alloc (Nat.le_refl _) (.cells #[.int .i64 t.kind, .slice L5 t.labels.length l5, .slice A5 t.args.length a5] 27); have hH7 := hH6.alloc (.cells #[.int .i64 t.kind, .slice L5 t.labels.length l5, .slice A5 t.args.length a5] 27); have hQ7 := hQ6.below hb7 hQ6.lt; have yy0 : (w6.alloc (.cells #[.int .i64 t.kind, .slice L5 t.labels.length l5, .slice A5 t.args.length a5] 27)).cell? ⟨w3.heap.size, 0, none⟩ = some (.int .i64 t.kind) := hQ7.cell 0; have yy1 : (w6.alloc (.cells #[.int .i64 t.kind, .slice L5 t.labels.length l5, .slice A5 t.args.length a5] 27)).cell? ⟨w3.heap.size, 1, none⟩ = some (.slice L5 t.labels.length l5) := hQ7.cell 1; have yy2 : (w6.alloc (.cells #[.int .i64 t.kind, .slice L5 t.labels.length l5, .slice A5 t.args.length a5] 27)).cell? ⟨w3.heap.size, 2, none⟩ = some (.slice A5 t.args.length a5) := hQ7.cell 2; have yy3 : (w6.alloc (.cells #[.int .i64 t.kind, .slice L5 t.labels.length l5, .slice A5 t.args.length a5] 27)).cell? ⟨w.heap.size, 0, none⟩ = some (rdAcc ps pa) := hH7.rdr.cell 0; have d0 : (w6.alloc (.cells #[.int .i64 t.kind, .slice L5 t.labels.length l5, .slice A5 t.args.length a5] 27)).cell? ⟨w.heap.size + 1, 0, none⟩ = some (.int .i64 0) := hH7.zero.cell 0; have d1 : (w6.alloc (.cells #[.int .i64 t.kind, .slice L5 t.labels.length l5, .slice A5 t.args.length a5] 27)).cell? ⟨w.heap.size + 1, 1, none⟩ = some (.slice none 0 0) := hH7.zero.cell 1; have d2 : (w6.alloc (.cells #[.int .i64 t.kind, .slice L5 t.labels.length l5, .slice A5 t.args.length a5] 27)).cell? ⟨w.heap.size + 1, 2, none⟩ = some (.slice none 0 0) := hH7.zero.cell 2; have f0 : (w6.alloc (.cells #[.int .i64 t.kind, .slice L5 t.labels.length l5, .slice A5 t.args.length a5] 27)).frozen? ⟨w.heap.size + 1, 0, none⟩ = false := hH7.zero.free 0; have f1 : (w6.alloc (.cells #[.int .i64 t.kind, .slice L5 t.labels.length l5, .slice A5 t.args.length a5] 27)).frozen? ⟨w.heap.size + 1, 1, none⟩ = false := hH7.zero.free 1; have f2 : (w6.alloc (.cells #[.int .i64 t.kind, .slice L5 t.labels.length l5, .slice A5 t.args.length a5] 27)).frozen? ⟨w.heap.size + 1, 2, none⟩ = false := hH7.zero.free 2; have hs6 := fun a b c i => set3_cell ((w6.alloc (.cells #[.int .i64 t.kind, .slice L5 t.labels.length l5, .slice A5 t.args.length a5] 27))) (w.heap.size + 1) a b c w3.heap.size i hne; have hs7 := fun a b c i => set3_cell ((w6.alloc (.cells #[.int .i64 t.kind, .slice L5 t.labels.length l5, .slice A5 t.args.length a5] 27))) (w.heap.size + 1) a b c w.heap.size i hne2; obtain ⟨xsb, vsb, lob, hib, hOb⟩ := own_list (base := w.heap.size + 1 + 1) (lo0 := w2.heap.size) (hi0 := w3.heap.size) (by omega) (by omega) (by omega) hT6; have HO7 := Lib.hid hOb.own; have HH7 := Lib.hid hH7; clear hr6 hg6 hg6' hH6 hQ6 hT6 hb7 hH7 hQ7 hOb) | (go_simp; go_at_call 72; (with_reducible refine HA2.out.mono ?_); rintro e w6 ⟨rfl, hr6, hg6'⟩; have hg6 := grown_drew hg6'; have hH6 := HHa.out.read hr6 hg6; have hQ6 : Whole1 w6 w3.heap.size 27 #[.int .i64 t.kind, .slice L5 t.labels.length l5, .slice A5 t.args.length a5] := (hg6.block _ HQa.out.lt (fun e => by injection e with e; omega)).trans HQa.out; have y0 : w6.cell? ⟨w3.heap.size, 0, none⟩ = some (.int .i64 t.kind) := hQ6.cell 0; have y1 : w6.cell? ⟨w3.heap.size, 1, none⟩ = some (.slice L5 t.labels.length l5) := hQ6.cell 1; have y2 : w6.cell? ⟨w3.heap.size, 2, none⟩ = some (.slice A5 t.args.length a5) := hQ6.cell 2; have y3 : w6.cell? ⟨w.heap.size, 0, none⟩ = some (rdAcc ps pa) := hH6.rdr.cell 0; have d0 : w6.cell? ⟨w.heap.size + 1, 0, none⟩ = some (.int .i64 0) := hH6.zero.cell 0; have d1 : w6.cell? ⟨w.heap.size + 1, 1, none⟩ = some (.slice none 0 0) := hH6.zero.cell 1; have d2 : w6.cell? ⟨w.heap.size + 1, 2, none⟩ = some (.slice none 0 0) := hH6.zero.cell 2; have f0 : w6.frozen? ⟨w.heap.size + 1, 0, none⟩ = false := hH6.zero.free 0; have f1 : w6.frozen? ⟨w.heap.size + 1, 1, none⟩ = false := hH6.zero.free 1; have f2 : w6.frozen? ⟨w.heap.size + 1, 2, none⟩ = false := hH6.zero.free 2; have hs6 := fun a b c i => set3_cell (w6) (w.heap.size + 1) a b c w3.heap.size i hne; have hs7 := fun a b c i => set3_cell (w6) (w.heap.size + 1) a b c w.heap.size i hne2; have HO6 := Lib.hid (HOa.out.grown hg6 (by omega)).own; have HH6 := Lib.hid hH6; clear hr6 hg6 hg6' hH6 hQ6))
                all_goals go_wp2
                all_goals first
                  | exact bodyPost_ret (v := .tuple #[.agg #[.int .i64 5, .slice none 0 0, .slice (some ⟨w4.heap.size, 0, none⟩) 1 1], .bool false]) (by simp [results, Try.results38, go_sem, d0, d1, d2]) rfl (Or.inl ⟨HX.out, HH6.out.fail _ _ _ _ _ _ _ _ _ _⟩)
                  | exact bodyPost_ret (v := .tuple #[.agg #[.int .i64 5, .slice none 0 0, .slice (some ⟨w6.heap.size, 0, none⟩) 1 1], .bool false]) (by simp [results, Try.results38, go_sem, d0, d1, d2]) rfl (Or.inl ⟨HX.out, HH7.out.fail _ _ _ _ _ _ _ _ _ _⟩)
          · have HC := Lib.hid (acc_no ps pa i s 91 w60 HH60.out.rd (eat_miss h91))
            have hX := Lib.hid (show rdTy (n + 1) (restOf s i) = none by simp only [rdTy, E73.out, E66.out, E123.out, E60.out, eat_miss h91])
            clear h91
            go_wp2_with fail
            refine HC.out.mono ?_
            rintro e w2 ⟨rfl, hr2, hg2⟩
            have HH2 := Lib.hid (HH60.out.read hr2 hg2)
            clear hr2 hg2 b0 HC
            have d0 : w2.cell? ⟨w.heap.size + 1, 0, none⟩ = some (.int .i64 0) := HH2.out.zero.cell 0
            have d1 : w2.cell? ⟨w.heap.size + 1, 1, none⟩ = some (.slice none 0 0) := HH2.out.zero.cell 1
            have d2 : w2.cell? ⟨w.heap.size + 1, 2, none⟩ = some (.slice none 0 0) := HH2.out.zero.cell 2
            have f0 : w2.frozen? ⟨w.heap.size + 1, 0, none⟩ = false := HH2.out.zero.free 0
            have f1 : w2.frozen? ⟨w.heap.size + 1, 1, none⟩ = false := HH2.out.zero.free 1
            have f2 : w2.frozen? ⟨w.heap.size + 1, 2, none⟩ = false := HH2.out.zero.free 2
            go_wp2
            exact bodyPost_ret (v := .tuple #[.agg #[.int .i64 0, .slice none 0 0, .slice none 0 0], .bool false]) (by simp [results, Try.results38, go_sem, d0, d1, d2]) rfl (Or.inl ⟨hX.out, HH2.out.fail _ _ _ _ _ _ _ _ _ _⟩)

end Go.Proofs.Ytmacbkcjeamaeaa
