/- The reader of texts of types: a tree. -/
import Derived.Test.YtmacbkcjeamaeaaReadLab
namespace Go.Proofs.Ytmacbkcjeamaeaa
open Go.RowKit
attribute [local go_sem ↓] Go.wp_at_zero Go.wp_at_succ

/-- The reader, and the zero box of the result. -/
structure Hold (w W : World) (p r : Nat) (s : ByteArray) (j : Nat) (bad : Bool) : Prop where
  rd : RdAt W p s j bad
  zero : ZeroBox W r
  grown : w.grownBy W (some p)
theorem Hold.read {w W W' : World} {p r j j' : Nat} {s : ByteArray} {bad bad' : Bool} (h : Hold w W p r s j bad) (hr : RdAt W' p s j' bad') (hg : W.grownBy W' (some p)) (hrp : r ≠ p) : Hold w W' p r s j' bad' :=
  ⟨hr, (hg.block r h.zero.lt (fun e => by injection e with e; exact hrp e)).trans h.zero, only_trans h.grown hg⟩
theorem Hold.more {w W W' : World} {p r j B : Nat} {s : ByteArray} {bad : Bool} (h : Hold w W p r s j bad) (hb : Below B W W') (hr : r < B) (hp : p < B) (hB : w.heap.size ≤ B) : Hold w W' p r s j bad :=
  ⟨h.rd.below hb hp, h.zero.below hb hr, grown_low h.grown hb hB⟩

theorem set3_keep (w : World) (r : Nat) (a b c : Value) (g : Nat) (hg : g ≠ r) : (((w.setCell ⟨r, 0, none⟩ a).setCell ⟨r, 1, none⟩ b).setCell ⟨r, 2, none⟩ c).heap[g]? = w.heap[g]? := by
  rw [Below.heap_setCell _ _ _ _ hg, Below.heap_setCell _ _ _ _ hg, Below.heap_setCell _ _ _ _ hg]
theorem fin_good {w W : World} {p j : Nat} {s : ByteArray} {v : Value} {t : Ty} (h : Hold w W p w.heap.size s j false) (hO : OwnTy W (w.heap.size + 1) v t) (hp : p < w.heap.size) (a b c : Value) :
    Goods w p s t (restOf s j) (.returned v) (((W.setCell ⟨w.heap.size, 0, none⟩ a).setCell ⟨w.heap.size, 1, none⟩ b).setCell ⟨w.heap.size, 2, none⟩ c) :=
  ⟨v, j, rfl, rfl, h.rd.block (set3_keep _ _ _ _ _ _ (by omega)), (hO.keep (by simp [World.setCell]) (fun g hg _ => set3_keep _ _ _ _ _ _ (by omega))).base (by omega), box_grown h.grown (Nat.le_refl _) a b c⟩
theorem fin_bad {w W : World} {p j : Nat} {s : ByteArray} (h : Hold w W p w.heap.size s j true) (hp : p < w.heap.size) (x : Int) (L A : Option Addr) (n lc m ac : Nat) (a b c : Value) :
    Bads w p s (.returned (.agg #[.int .i64 x, .slice L n lc, .slice A m ac])) (((W.setCell ⟨w.heap.size, 0, none⟩ a).setCell ⟨w.heap.size, 1, none⟩ b).setCell ⟨w.heap.size, 2, none⟩ c) :=
  ⟨x, L, n, lc, A, m, ac, j, rfl, h.rd.block (set3_keep _ _ _ _ _ _ (by omega)), box_grown h.grown (Nat.le_refl _) a b c⟩

/-- A reading does what the model does. -/
def Does (x : Option (Ty × List UInt8)) (w : World) (p : Nat) (s : ByteArray) (e : Ending) (w' : World) : Prop := (x = none ∧ Bads w p s e w') ∨ ∃ t r, x = some (t, r) ∧ Goods w p s t r e w'
theorem TypeOne.of {n : Nat} {d : Int} (h0 : ∀ (w : World) (p i : Nat) (s : ByteArray), RdAt w p s i true → s.size ≤ 1048576 → Calls Try.prog 47 #[.pointer (some ⟨p, 0, none⟩), .int .i64 d] w (Bads w p s))
    (h1 : ∀ (w : World) (p i : Nat) (s : ByteArray), RdAt w p s i false → s.size ≤ 1048576 → Calls Try.prog 47 #[.pointer (some ⟨p, 0, none⟩), .int .i64 d] w (Does (rdTy n (restOf s i)) w p s)) : TypeOne n d := by
  refine ⟨fun w p i s b hr hs hb => ?_, fun w p i s t r hr hs ht => ?_⟩
  · cases b
    · refine (h1 w p i s hr hs).mono ?_
      rintro e w' (⟨_, h⟩ | ⟨t, r, h, _⟩)
      · exact h
      · rw [hb.resolve_left (by simp)] at h
        cases h
    · exact h0 w p i s hr hs
  · refine (h1 w p i s hr hs).mono ?_
    rintro e w' (⟨h, _⟩ | ⟨t', r', h, hg⟩)
    · rw [ht] at h
      cases h
    · rw [ht] at h
      cases h
      exact hg

set_option maxHeartbeats 1000000 in
theorem l3Bool_any (w : World) : Calls Try.prog 85 #[] w (OwnNew w (.mk 2 [] [])) := by
  go_enter Try.func85, Try.ntmps85
  go_wp2
  exact bodyPost_ret (v := .agg #[.int .i64 2, .slice none 0 0, .slice none 0 0]) (by simp [results, Try.results85, go_sem]) rfl ⟨_, rfl, OwnTy.leaf _ _ _, (Below.refl _ _).alloc (Nat.le_refl _) _⟩

set_option maxHeartbeats 1000000 in
theorem type_stops (d : Int) (w : World) (p i : Nat) (s : ByteArray) (b : Bool) (hr : RdAt w p s i b) (hd : b = true ∨ decide (8 < d) = true) : Calls Try.prog 47 #[.pointer (some ⟨p, 0, none⟩), .int .i64 d] w (Bads w p s) := by
  have hpl := hr.lt
  obtain ⟨hb0, r0, hs0⟩ := boxes1 w 27 #[.int .i64 0, .slice none 0 0, .slice none 0 0]
  have hr0 := hr.below hb0 hpl
  have H0 := Lib.hid (⟨hr0.setb true, (Below.heap_setCell _ _ _ _ (by show w.heap.size ≠ p; omega)).trans r0, only_set (grown_low (only_refl w (some p)) hb0 (Nat.le_refl _)) 2 _⟩ : Hold w ((w.alloc (.cells #[.int .i64 0, .slice none 0 0, .slice none 0 0] 27)).setCell ⟨p, 2, none⟩ (.bool true)) p w.heap.size s i true)
  have c2 : (w.alloc (.cells #[.int .i64 0, .slice none 0 0, .slice none 0 0] 27)).cell? ⟨p, 2, none⟩ = some (.bool b) := Whole1.cell hr0.1 2
  have f2 : (w.alloc (.cells #[.int .i64 0, .slice none 0 0, .slice none 0 0] 27)).frozen? ⟨p, 2, none⟩ = false := Whole1.free hr0.1 2
  have d0 : ((w.alloc (.cells #[.int .i64 0, .slice none 0 0, .slice none 0 0] 27)).setCell ⟨p, 2, none⟩ (.bool true)).cell? ⟨w.heap.size, 0, none⟩ = some (.int .i64 0) := H0.out.zero.cell 0
  have d1 : ((w.alloc (.cells #[.int .i64 0, .slice none 0 0, .slice none 0 0] 27)).setCell ⟨p, 2, none⟩ (.bool true)).cell? ⟨w.heap.size, 1, none⟩ = some (.slice none 0 0) := H0.out.zero.cell 1
  have d2 : ((w.alloc (.cells #[.int .i64 0, .slice none 0 0, .slice none 0 0] 27)).setCell ⟨p, 2, none⟩ (.bool true)).cell? ⟨w.heap.size, 2, none⟩ = some (.slice none 0 0) := H0.out.zero.cell 2
  have e0 : ((w.alloc (.cells #[.int .i64 0, .slice none 0 0, .slice none 0 0] 27)).setCell ⟨p, 2, none⟩ (.bool true)).frozen? ⟨w.heap.size, 0, none⟩ = false := H0.out.zero.free 0
  have e1 : ((w.alloc (.cells #[.int .i64 0, .slice none 0 0, .slice none 0 0] 27)).setCell ⟨p, 2, none⟩ (.bool true)).frozen? ⟨w.heap.size, 1, none⟩ = false := H0.out.zero.free 1
  have e2 : ((w.alloc (.cells #[.int .i64 0, .slice none 0 0, .slice none 0 0] 27)).setCell ⟨p, 2, none⟩ (.bool true)).frozen? ⟨w.heap.size, 2, none⟩ = false := H0.out.zero.free 2
  have d3 : ((w.alloc (.cells #[.int .i64 0, .slice none 0 0, .slice none 0 0] 27)).setCell ⟨p, 2, none⟩ (.bool true)).cell? ⟨p, 2, none⟩ = some (.bool true) := Whole1.cell H0.out.rd.1 2
  clear hr hr0 r0 hb0 hs0
  have hd8 : b = true ∨ b = false ∧ decide (8 < d) = true := by
    rcases hd with h | h
    · exact Or.inl h
    · cases b
      · exact Or.inr ⟨rfl, h⟩
      · exact Or.inl rfl
  clear hd
  go_enter Try.func47, Try.ntmps47
  go_upto_region 1 with fail
  generalize w.alloc (.cells #[.int .i64 0, .slice none 0 0, .slice none 0 0] 27) = w0 at *
  rcases hd8 with rfl | ⟨rfl, hd8⟩
  all_goals
    go_wp2
    exact bodyPost_ret (v := .agg #[.int .i64 0, .slice none 0 0, .slice none 0 0]) (by simp [results, Try.results47, go_sem, d0, d1, d2]) rfl (fin_bad H0.out hpl 0 none none 0 0 0 0 _ _ _)

set_option maxHeartbeats 4000000 in
set_option maxRecDepth 100000 in
theorem type_reads (n : Nat) (d : Int) (hd : decide (8 < d) = false) (hwr : IntKind.i64.wrap (d + 1) = d + 1) (H : TypeOne n (d + 1)) (w : World) (p i : Nat) (s : ByteArray) (hr : RdAt w p s i false) (hs : s.size ≤ 1048576) :
    Calls Try.prog 47 #[.pointer (some ⟨p, 0, none⟩), .int .i64 d] w (Does (rdTy (n + 1) (restOf s i)) w p s) := by
  have hpl := hr.lt
  have hrp : w.heap.size ≠ p := by omega
  obtain ⟨hb0, r0, hs0⟩ := boxes1 w 27 #[.int .i64 0, .slice none 0 0, .slice none 0 0]
  have hr0 := hr.below hb0 hpl
  have HH1 := Lib.hid (⟨hr0.setb false, (Below.heap_setCell _ _ _ _ (by show w.heap.size ≠ p; omega)).trans r0, only_set (grown_low (only_refl w (some p)) hb0 (Nat.le_refl _)) 2 _⟩ : Hold w ((w.alloc (.cells #[.int .i64 0, .slice none 0 0, .slice none 0 0] 27)).setCell ⟨p, 2, none⟩ (.bool false)) p w.heap.size s i false)
  have c2 : (w.alloc (.cells #[.int .i64 0, .slice none 0 0, .slice none 0 0] 27)).cell? ⟨p, 2, none⟩ = some (.bool false) := Whole1.cell hr0.1 2
  have f2 : (w.alloc (.cells #[.int .i64 0, .slice none 0 0, .slice none 0 0] 27)).frozen? ⟨p, 2, none⟩ = false := Whole1.free hr0.1 2
  have H2 := Lib.hid H
  clear hr hr0 r0 hb0 hs0 H
  go_enter Try.func47, Try.ntmps47
  go_upto_region 1 with fail
  generalize w.alloc (.cells #[.int .i64 0, .slice none 0 0, .slice none 0 0] 27) = w0 at *
  go_upto_region 2 with fail
  clear c2 f2
  generalize w0.setCell ⟨p, 2, none⟩ (.bool false) = w1 at *
  have c2 : w1.cell? ⟨p, 2, none⟩ = some (.bool false) := Whole1.cell HH1.out.rd.1 2
  by_cases h73 : ∃ hk : i < s.size, s[i] = 73
  · obtain ⟨hk, hc⟩ := h73
    have HT := Lib.hid (take_yes p i s 73 w1 HH1.out.rd hs hk hc)
    have hX := Lib.hid (show rdTy (n + 1) (restOf s i) = some (.mk 1 [] [], restOf s (i + 1)) by simp only [rdTy, eat_hit hk hc])
    clear hc
    go_wp2_with fail
    refine HT.out.mono ?_
    rintro e w2 ⟨rfl, hr2, hg2⟩
    have HH2 := Lib.hid (HH1.out.read hr2 hg2 hrp)
    clear hr2 hg2
    have HI := Lib.hid (l3Int_any w2)
    have hs2 := HH2.out.zero.lt
    have hp2 := HH2.out.rd.lt
    have hg2 := HH2.out.grown.size
    go_wp2_with fail
    refine HI.out.mono ?_
    rintro e w3 ⟨v, rfl, hO, hb⟩
    have HO := Lib.hid (hO.base (base := w.heap.size + 1) (by omega))
    obtain ⟨L3, l3, A3, a3, rfl⟩ := hO.open
    have HH3 := Lib.hid (HH2.out.more hb hs2 hp2 hg2)
    clear hO hb
    have d0 : w3.cell? ⟨w.heap.size, 0, none⟩ = some (.int .i64 0) := HH3.out.zero.cell 0
    have d1 : w3.cell? ⟨w.heap.size, 1, none⟩ = some (.slice none 0 0) := HH3.out.zero.cell 1
    have d2 : w3.cell? ⟨w.heap.size, 2, none⟩ = some (.slice none 0 0) := HH3.out.zero.cell 2
    have f0 : w3.frozen? ⟨w.heap.size, 0, none⟩ = false := HH3.out.zero.free 0
    have f1 : w3.frozen? ⟨w.heap.size, 1, none⟩ = false := HH3.out.zero.free 1
    have f2 : w3.frozen? ⟨w.heap.size, 2, none⟩ = false := HH3.out.zero.free 2
    go_wp2
    exact bodyPost_ret (v := .agg #[.int .i64 1, .slice L3 0 l3, .slice A3 0 a3]) (by simp [results, Try.results47, go_sem, Ty.kind, Ty.labels, Ty.args, d0, d1, d2]) rfl (Or.inr ⟨_, _, hX.out, fin_good HH3.out HO.out hpl _ _ _⟩)
  · have E73 := Lib.hid (eat_miss h73)
    have HT := Lib.hid (take_other p i s 73 w1 HH1.out.rd hs (eat_miss h73))
    clear h73
    go_wp2_with fail
    refine HT.out.mono ?_
    rintro e w73 ⟨rfl, hr2, hg2⟩
    have HH1 := Lib.hid (HH1.out.read hr2 hg2 hrp)
    clear hr2 hg2
    by_cases h66 : ∃ hk : i < s.size, s[i] = 66
    · obtain ⟨hk, hc⟩ := h66
      have HT := Lib.hid (take_yes p i s 66 w73 HH1.out.rd hs hk hc)
      have hX := Lib.hid (show rdTy (n + 1) (restOf s i) = some (.mk 2 [] [], restOf s (i + 1)) by simp only [rdTy, E73.out, eat_hit hk hc])
      clear hc
      go_wp2_with fail
      refine HT.out.mono ?_
      rintro e w2 ⟨rfl, hr2, hg2⟩
      have HH2 := Lib.hid (HH1.out.read hr2 hg2 hrp)
      clear hr2 hg2
      have HI := Lib.hid (l3Bool_any w2)
      have hs2 := HH2.out.zero.lt
      have hp2 := HH2.out.rd.lt
      have hg2 := HH2.out.grown.size
      go_wp2_with fail
      refine HI.out.mono ?_
      rintro e w3 ⟨v, rfl, hO, hb⟩
      have HO := Lib.hid (hO.base (base := w.heap.size + 1) (by omega))
      obtain ⟨L3, l3, A3, a3, rfl⟩ := hO.open
      have HH3 := Lib.hid (HH2.out.more hb hs2 hp2 hg2)
      clear hO hb
      have d0 : w3.cell? ⟨w.heap.size, 0, none⟩ = some (.int .i64 0) := HH3.out.zero.cell 0
      have d1 : w3.cell? ⟨w.heap.size, 1, none⟩ = some (.slice none 0 0) := HH3.out.zero.cell 1
      have d2 : w3.cell? ⟨w.heap.size, 2, none⟩ = some (.slice none 0 0) := HH3.out.zero.cell 2
      have f0 : w3.frozen? ⟨w.heap.size, 0, none⟩ = false := HH3.out.zero.free 0
      have f1 : w3.frozen? ⟨w.heap.size, 1, none⟩ = false := HH3.out.zero.free 1
      have f2 : w3.frozen? ⟨w.heap.size, 2, none⟩ = false := HH3.out.zero.free 2
      go_wp2
      exact bodyPost_ret (v := .agg #[.int .i64 2, .slice L3 0 l3, .slice A3 0 a3]) (by simp [results, Try.results47, go_sem, Ty.kind, Ty.labels, Ty.args, d0, d1, d2]) rfl (Or.inr ⟨_, _, hX.out, fin_good HH3.out HO.out hpl _ _ _⟩)
    · have E66 := Lib.hid (eat_miss h66)
      have HT := Lib.hid (take_other p i s 66 w73 HH1.out.rd hs (eat_miss h66))
      clear h66
      go_wp2_with fail
      refine HT.out.mono ?_
      rintro e w66 ⟨rfl, hr2, hg2⟩
      have HH1 := Lib.hid (HH1.out.read hr2 hg2 hrp)
      clear hr2 hg2
      by_cases h123 : ∃ hk : i < s.size, s[i] = 123
      · obtain ⟨hk, hc⟩ := h123
        have HT := Lib.hid (take_yes p i s 123 w66 HH1.out.rd hs hk hc)
        have hX := Lib.hid (show rdTy (n + 1) (restOf s i) = rdBox (rdTy n) 3 125 (restOf s (i + 1)) by simp only [rdTy, E73.out, E66.out, eat_hit hk hc])
        clear hc
        go_wp2_with fail
        refine HT.out.mono ?_
        rintro e w2 ⟨rfl, hr2, hg2⟩
        have HH2 := Lib.hid (HH1.out.read hr2 hg2 hrp)
        clear hr2 hg2
        have HL := Lib.hid (readLab n (d + 1) 3 125 H2.out w2 p (i + 1) s HH2.out.rd hs)
        have hs2 := HH2.out.zero.lt
        have hp2 := HH2.out.rd.lt
        have hg2 := HH2.out.grown.size
        go_wp2_with fail
        refine HL.out.mono ?_
        rintro e w3 (⟨hn, x, L, n1, lc, A, m, ac, j, rfl, hr3, hg3⟩ | ⟨t, r, hx, v, j, rfl, hrr, hr3, hO, hg3⟩)
        · have HH3 := Lib.hid (HH2.out.read hr3 hg3 hrp)
          have HX := Lib.hid (hX.out.trans hn)
          clear hr3 hg3 hn
          have d0 : w3.cell? ⟨w.heap.size, 0, none⟩ = some (.int .i64 0) := HH3.out.zero.cell 0
          have d1 : w3.cell? ⟨w.heap.size, 1, none⟩ = some (.slice none 0 0) := HH3.out.zero.cell 1
          have d2 : w3.cell? ⟨w.heap.size, 2, none⟩ = some (.slice none 0 0) := HH3.out.zero.cell 2
          have f0 : w3.frozen? ⟨w.heap.size, 0, none⟩ = false := HH3.out.zero.free 0
          have f1 : w3.frozen? ⟨w.heap.size, 1, none⟩ = false := HH3.out.zero.free 1
          have f2 : w3.frozen? ⟨w.heap.size, 2, none⟩ = false := HH3.out.zero.free 2
          go_wp2
          exact bodyPost_ret (v := .agg #[.int .i64 x, .slice L n1 lc, .slice A m ac]) (by simp [results, Try.results47, go_sem, d0, d1, d2]) rfl (Or.inl ⟨HX.out, fin_bad HH3.out hpl x L A n1 lc m ac _ _ _⟩)
        · have HO := Lib.hid (hO.base (base := w.heap.size + 1) (by omega))
          obtain ⟨L3, l3, A3, a3, rfl⟩ := hO.open
          have HH3 := Lib.hid (HH2.out.read hr3 hg3 hrp)
          have HX := Lib.hid (hX.out.trans hx)
          subst hrr
          clear hO hr3 hg3 hx
          have d0 : w3.cell? ⟨w.heap.size, 0, none⟩ = some (.int .i64 0) := HH3.out.zero.cell 0
          have d1 : w3.cell? ⟨w.heap.size, 1, none⟩ = some (.slice none 0 0) := HH3.out.zero.cell 1
          have d2 : w3.cell? ⟨w.heap.size, 2, none⟩ = some (.slice none 0 0) := HH3.out.zero.cell 2
          have f0 : w3.frozen? ⟨w.heap.size, 0, none⟩ = false := HH3.out.zero.free 0
          have f1 : w3.frozen? ⟨w.heap.size, 1, none⟩ = false := HH3.out.zero.free 1
          have f2 : w3.frozen? ⟨w.heap.size, 2, none⟩ = false := HH3.out.zero.free 2
          go_wp2
          exact bodyPost_ret (v := .agg #[.int .i64 t.kind, .slice L3 t.labels.length l3, .slice A3 t.args.length a3]) (by simp [results, Try.results47, go_sem, d0, d1, d2]) rfl (Or.inr ⟨_, _, HX.out, fin_good HH3.out HO.out hpl _ _ _⟩)
      · have E123 := Lib.hid (eat_miss h123)
        have HT := Lib.hid (take_other p i s 123 w66 HH1.out.rd hs (eat_miss h123))
        clear h123
        go_wp2_with fail
        refine HT.out.mono ?_
        rintro e w123 ⟨rfl, hr2, hg2⟩
        have HH1 := Lib.hid (HH1.out.read hr2 hg2 hrp)
        clear hr2 hg2
        by_cases h60 : ∃ hk : i < s.size, s[i] = 60
        · obtain ⟨hk, hc⟩ := h60
          have HT := Lib.hid (take_yes p i s 60 w123 HH1.out.rd hs hk hc)
          have hX := Lib.hid (show rdTy (n + 1) (restOf s i) = rdBox (rdTy n) 4 62 (restOf s (i + 1)) by simp only [rdTy, E73.out, E66.out, E123.out, eat_hit hk hc])
          clear hc
          go_wp2_with fail
          refine HT.out.mono ?_
          rintro e w2 ⟨rfl, hr2, hg2⟩
          have HH2 := Lib.hid (HH1.out.read hr2 hg2 hrp)
          clear hr2 hg2
          have HL := Lib.hid (readLab n (d + 1) 4 62 H2.out w2 p (i + 1) s HH2.out.rd hs)
          have hs2 := HH2.out.zero.lt
          have hp2 := HH2.out.rd.lt
          have hg2 := HH2.out.grown.size
          go_wp2_with fail
          refine HL.out.mono ?_
          rintro e w3 (⟨hn, x, L, n1, lc, A, m, ac, j, rfl, hr3, hg3⟩ | ⟨t, r, hx, v, j, rfl, hrr, hr3, hO, hg3⟩)
          · have HH3 := Lib.hid (HH2.out.read hr3 hg3 hrp)
            have HX := Lib.hid (hX.out.trans hn)
            clear hr3 hg3 hn
            have d0 : w3.cell? ⟨w.heap.size, 0, none⟩ = some (.int .i64 0) := HH3.out.zero.cell 0
            have d1 : w3.cell? ⟨w.heap.size, 1, none⟩ = some (.slice none 0 0) := HH3.out.zero.cell 1
            have d2 : w3.cell? ⟨w.heap.size, 2, none⟩ = some (.slice none 0 0) := HH3.out.zero.cell 2
            have f0 : w3.frozen? ⟨w.heap.size, 0, none⟩ = false := HH3.out.zero.free 0
            have f1 : w3.frozen? ⟨w.heap.size, 1, none⟩ = false := HH3.out.zero.free 1
            have f2 : w3.frozen? ⟨w.heap.size, 2, none⟩ = false := HH3.out.zero.free 2
            go_wp2
            exact bodyPost_ret (v := .agg #[.int .i64 x, .slice L n1 lc, .slice A m ac]) (by simp [results, Try.results47, go_sem, d0, d1, d2]) rfl (Or.inl ⟨HX.out, fin_bad HH3.out hpl x L A n1 lc m ac _ _ _⟩)
          · have HO := Lib.hid (hO.base (base := w.heap.size + 1) (by omega))
            obtain ⟨L3, l3, A3, a3, rfl⟩ := hO.open
            have HH3 := Lib.hid (HH2.out.read hr3 hg3 hrp)
            have HX := Lib.hid (hX.out.trans hx)
            subst hrr
            clear hO hr3 hg3 hx
            have d0 : w3.cell? ⟨w.heap.size, 0, none⟩ = some (.int .i64 0) := HH3.out.zero.cell 0
            have d1 : w3.cell? ⟨w.heap.size, 1, none⟩ = some (.slice none 0 0) := HH3.out.zero.cell 1
            have d2 : w3.cell? ⟨w.heap.size, 2, none⟩ = some (.slice none 0 0) := HH3.out.zero.cell 2
            have f0 : w3.frozen? ⟨w.heap.size, 0, none⟩ = false := HH3.out.zero.free 0
            have f1 : w3.frozen? ⟨w.heap.size, 1, none⟩ = false := HH3.out.zero.free 1
            have f2 : w3.frozen? ⟨w.heap.size, 2, none⟩ = false := HH3.out.zero.free 2
            go_wp2
            exact bodyPost_ret (v := .agg #[.int .i64 t.kind, .slice L3 t.labels.length l3, .slice A3 t.args.length a3]) (by simp [results, Try.results47, go_sem, d0, d1, d2]) rfl (Or.inr ⟨_, _, HX.out, fin_good HH3.out HO.out hpl _ _ _⟩)
        · have E60 := Lib.hid (eat_miss h60)
          have HT := Lib.hid (take_other p i s 60 w123 HH1.out.rd hs (eat_miss h60))
          clear h60
          go_wp2_with fail
          refine HT.out.mono ?_
          rintro e w60 ⟨rfl, hr2, hg2⟩
          have HH1 := Lib.hid (HH1.out.read hr2 hg2 hrp)
          clear hr2 hg2
          by_cases h91 : ∃ hk : i < s.size, s[i] = 91
          · obtain ⟨hk, hc⟩ := h91
            have HT := Lib.hid (must_yes p i s 91 w60 HH1.out.rd hs hk hc)
            have E91 := Lib.hid (eat_hit hk hc)
            clear hc
            go_wp2_with fail
            refine HT.out.mono ?_
            rintro e w3 ⟨rfl, hr3, hg3⟩
            have HH3 := Lib.hid (HH1.out.read hr3 hg3 hrp)
            have b3 : w3.cell? ⟨p, 2, none⟩ = some (.bool false) := Whole1.cell hr3.1 2
            have hz3 := HH3.out.zero.lt
            clear hr3 hg3
            cases hty : rdTy n (restOf s (i + 1)) with
            | none =>
              have hX := Lib.hid (show rdTy (n + 1) (restOf s i) = none by simp only [rdTy, E73.out, E66.out, E123.out, E60.out, E91.out, hty])
              have HTB := Lib.hid (H2.out.bad w3 p (i + 1) s false HH3.out.rd hs (Or.inr hty))
              clear hty
              go_wp2_with fail
              refine HTB.out.mono ?_
              rintro e w4 ⟨x, L, n1, lc, A, m, ac, j, rfl, hr4, hg4⟩
              have HH4 := Lib.hid (HH3.out.read hr4 hg4 hrp)
              have hs4 := HH4.out.zero.lt
              have hp4 := HH4.out.rd.lt
              have hz4 := HH4.out.grown.size
              obtain ⟨hb5, t5, b5, hz5⟩ := boxes2 w4 27 27 #[.int .i64 x, .slice L n1 lc, .slice A m ac] #[.int .i64 5, .slice none 0 0, .slice (some ⟨w4.heap.size, 0, none⟩) 1 1]
              have HH5 := Lib.hid (HH4.out.more hb5 hs4 hp4 hz4)
              have HB5 := Lib.hid b5
              clear hr4 hg4 hb5 t5 b5 hz5
              go_upto_region 16 with fail
              generalize (w4.alloc (.cells #[.int .i64 x, .slice L n1 lc, .slice A m ac] 27)).alloc (.cells #[.int .i64 5, .slice none 0 0, .slice (some ⟨w4.heap.size, 0, none⟩) 1 1] 27) = w5 at *
              have HMU := Lib.hid (must_no p j s true 93 w5 HH5.out.rd hs (Or.inl rfl))
              go_wp2_with fail
              refine HMU.out.mono ?_
              rintro e w6 ⟨rfl, hr6, hg6⟩
              have HH6 := Lib.hid (HH5.out.read hr6 hg6 hrp)
              have HB6 : Hid (Whole1 w6 (w4.heap.size + 1) 27 #[.int .i64 5, .slice none 0 0, .slice (some ⟨w4.heap.size, 0, none⟩) 1 1]) := Lib.hid ((hg6.block (w4.heap.size + 1) HB5.out.lt (fun e => by injection e with e; omega)).trans HB5.out)
              have q0 : w6.cell? ⟨w4.heap.size + 1, 0, none⟩ = some (.int .i64 5) := HB6.out.cell 0
              have q1 : w6.cell? ⟨w4.heap.size + 1, 1, none⟩ = some (.slice none 0 0) := HB6.out.cell 1
              have q2 : w6.cell? ⟨w4.heap.size + 1, 2, none⟩ = some (.slice (some ⟨w4.heap.size, 0, none⟩) 1 1) := HB6.out.cell 2
              clear hr6 hg6
              have d0 : w6.cell? ⟨w.heap.size, 0, none⟩ = some (.int .i64 0) := HH6.out.zero.cell 0
              have d1 : w6.cell? ⟨w.heap.size, 1, none⟩ = some (.slice none 0 0) := HH6.out.zero.cell 1
              have d2 : w6.cell? ⟨w.heap.size, 2, none⟩ = some (.slice none 0 0) := HH6.out.zero.cell 2
              have f0 : w6.frozen? ⟨w.heap.size, 0, none⟩ = false := HH6.out.zero.free 0
              have f1 : w6.frozen? ⟨w.heap.size, 1, none⟩ = false := HH6.out.zero.free 1
              have f2 : w6.frozen? ⟨w.heap.size, 2, none⟩ = false := HH6.out.zero.free 2
              go_wp2
              exact bodyPost_ret (v := .agg #[.int .i64 5, .slice none 0 0, .slice (some ⟨w4.heap.size, 0, none⟩) 1 1]) (by simp [results, Try.results47, go_sem, d0, d1, d2]) rfl (Or.inl ⟨hX.out, fin_bad HH6.out hpl 5 none (some ⟨w4.heap.size, 0, none⟩) 0 0 1 1 _ _ _⟩)
            | some tr =>
              obtain ⟨t, r⟩ := tr
              have HTG := Lib.hid (H2.out.good w3 p (i + 1) s t r HH3.out.rd hs hty)
              have HTY := Lib.hid hty
              clear hty
              go_wp2_with fail
              refine HTG.out.mono ?_
              rintro e w4 ⟨v, j, rfl, hrr, hr4, hO4, hg4⟩
              have hI4 := hO4.owned
              obtain ⟨L3, l3, A3, a3, rfl⟩ := hO4.open
              clear hO4
              have HH4 := Lib.hid (HH3.out.read hr4 hg4 hrp)
              have hs4 := HH4.out.zero.lt
              have hp4 := HH4.out.rd.lt
              have hz4 := HH4.out.grown.size
              obtain ⟨hb5, t5, b5, hz5⟩ := boxes2 w4 27 27 #[.int .i64 t.kind, .slice L3 t.labels.length l3, .slice A3 t.args.length a3] #[.int .i64 5, .slice none 0 0, .slice (some ⟨w4.heap.size, 0, none⟩) 1 1]
              have HH5 := Lib.hid (HH4.out.more hb5 hs4 hp4 hz4)
              obtain ⟨xs, vs, lo, hi, hG⟩ := gather_one (base := w.heap.size + 1) (by omega) (by have := hg4.size; omega) hI4
              have HA5 := Lib.hid (OwnAt.alloc (⟨fun i h => absurd h (by simp [Ty.labels]), by unfold maxLen; simp [Ty.args], World.ownsRow_nil _ _ _ 1, hG, fun gl h => by cases h⟩ : OwnAt (w4.alloc (.cells #[.int .i64 t.kind, .slice L3 t.labels.length l3, .slice A3 t.args.length a3] 27)) (w.heap.size + 1) none 0 (some ⟨w4.heap.size, 0, none⟩) 1 (.mk 5 [] [t]) xs vs lo hi) (.cells #[.int .i64 5, .slice none 0 0, .slice (some ⟨w4.heap.size, 0, none⟩) 1 1] 27))
              clear hG hI4
              have HB5 := Lib.hid b5
              clear hr4 hg4 hb5 t5 b5 hz5
              go_upto_region 16 with fail
              generalize (w4.alloc (.cells #[.int .i64 t.kind, .slice L3 t.labels.length l3, .slice A3 t.args.length a3] 27)).alloc (.cells #[.int .i64 5, .slice none 0 0, .slice (some ⟨w4.heap.size, 0, none⟩) 1 1] 27) = w5 at *
              by_cases h93 : ∃ hk : j < s.size, s[j] = 93
              · obtain ⟨hk9, hc9⟩ := h93
                have HMU := Lib.hid (must_yes p j s 93 w5 HH5.out.rd hs hk9 hc9)
                have hX := Lib.hid (show rdTy (n + 1) (restOf s i) = some (.mk 5 [] [t], restOf s (j + 1)) by simp only [rdTy, E73.out, E66.out, E123.out, E60.out, E91.out, HTY.out, hrr, eat_hit hk9 hc9])
                clear hc9
                go_wp2_with fail
                refine HMU.out.mono ?_
                rintro e w6 ⟨rfl, hr6, hg6⟩
                have HH6 := Lib.hid (HH5.out.read hr6 hg6 hrp)
                have HA6 := Lib.hid ((HA5.out.grown hg6 (by omega)).own)
                have HB6 : Hid (Whole1 w6 (w4.heap.size + 1) 27 #[.int .i64 5, .slice none 0 0, .slice (some ⟨w4.heap.size, 0, none⟩) 1 1]) := Lib.hid ((hg6.block (w4.heap.size + 1) HB5.out.lt (fun e => by injection e with e; omega)).trans HB5.out)
                have q0 : w6.cell? ⟨w4.heap.size + 1, 0, none⟩ = some (.int .i64 5) := HB6.out.cell 0
                have q1 : w6.cell? ⟨w4.heap.size + 1, 1, none⟩ = some (.slice none 0 0) := HB6.out.cell 1
                have q2 : w6.cell? ⟨w4.heap.size + 1, 2, none⟩ = some (.slice (some ⟨w4.heap.size, 0, none⟩) 1 1) := HB6.out.cell 2
                clear hr6 hg6
                have d0 : w6.cell? ⟨w.heap.size, 0, none⟩ = some (.int .i64 0) := HH6.out.zero.cell 0
                have d1 : w6.cell? ⟨w.heap.size, 1, none⟩ = some (.slice none 0 0) := HH6.out.zero.cell 1
                have d2 : w6.cell? ⟨w.heap.size, 2, none⟩ = some (.slice none 0 0) := HH6.out.zero.cell 2
                have f0 : w6.frozen? ⟨w.heap.size, 0, none⟩ = false := HH6.out.zero.free 0
                have f1 : w6.frozen? ⟨w.heap.size, 1, none⟩ = false := HH6.out.zero.free 1
                have f2 : w6.frozen? ⟨w.heap.size, 2, none⟩ = false := HH6.out.zero.free 2
                go_wp2
                exact bodyPost_ret (v := .agg #[.int .i64 5, .slice none 0 0, .slice (some ⟨w4.heap.size, 0, none⟩) 1 1]) (by simp [results, Try.results47, go_sem, d0, d1, d2]) rfl (Or.inr ⟨_, _, hX.out, fin_good HH6.out HA6.out hpl _ _ _⟩)
              · have HMU := Lib.hid (must_no p j s false 93 w5 HH5.out.rd hs (Or.inr (eat_miss h93)))
                have hX := Lib.hid (show rdTy (n + 1) (restOf s i) = none by simp only [rdTy, E73.out, E66.out, E123.out, E60.out, E91.out, HTY.out, hrr, eat_miss h93])
                clear h93
                go_wp2_with fail
                refine HMU.out.mono ?_
                rintro e w6 ⟨rfl, hr6, hg6⟩
                have HH6 := Lib.hid (HH5.out.read hr6 hg6 hrp)
                have HB6 : Hid (Whole1 w6 (w4.heap.size + 1) 27 #[.int .i64 5, .slice none 0 0, .slice (some ⟨w4.heap.size, 0, none⟩) 1 1]) := Lib.hid ((hg6.block (w4.heap.size + 1) HB5.out.lt (fun e => by injection e with e; omega)).trans HB5.out)
                have q0 : w6.cell? ⟨w4.heap.size + 1, 0, none⟩ = some (.int .i64 5) := HB6.out.cell 0
                have q1 : w6.cell? ⟨w4.heap.size + 1, 1, none⟩ = some (.slice none 0 0) := HB6.out.cell 1
                have q2 : w6.cell? ⟨w4.heap.size + 1, 2, none⟩ = some (.slice (some ⟨w4.heap.size, 0, none⟩) 1 1) := HB6.out.cell 2
                clear hr6 hg6
                have d0 : w6.cell? ⟨w.heap.size, 0, none⟩ = some (.int .i64 0) := HH6.out.zero.cell 0
                have d1 : w6.cell? ⟨w.heap.size, 1, none⟩ = some (.slice none 0 0) := HH6.out.zero.cell 1
                have d2 : w6.cell? ⟨w.heap.size, 2, none⟩ = some (.slice none 0 0) := HH6.out.zero.cell 2
                have f0 : w6.frozen? ⟨w.heap.size, 0, none⟩ = false := HH6.out.zero.free 0
                have f1 : w6.frozen? ⟨w.heap.size, 1, none⟩ = false := HH6.out.zero.free 1
                have f2 : w6.frozen? ⟨w.heap.size, 2, none⟩ = false := HH6.out.zero.free 2
                go_wp2
                exact bodyPost_ret (v := .agg #[.int .i64 5, .slice none 0 0, .slice (some ⟨w4.heap.size, 0, none⟩) 1 1]) (by simp [results, Try.results47, go_sem, d0, d1, d2]) rfl (Or.inl ⟨hX.out, fin_bad HH6.out hpl 5 none (some ⟨w4.heap.size, 0, none⟩) 0 0 1 1 _ _ _⟩)
          · have HT := Lib.hid (must_no p i s false 91 w60 HH1.out.rd hs (Or.inr (eat_miss h91)))
            have hX := Lib.hid (show rdTy (n + 1) (restOf s i) = none by simp only [rdTy, E73.out, E66.out, E123.out, E60.out, eat_miss h91])
            clear h91
            go_wp2_with fail
            refine HT.out.mono ?_
            rintro e w3 ⟨rfl, hr3, hg3⟩
            have HH3 := Lib.hid (HH1.out.read hr3 hg3 hrp)
            have b3 : w3.cell? ⟨p, 2, none⟩ = some (.bool true) := Whole1.cell hr3.1 2
            clear hr3 hg3
            have d0 : w3.cell? ⟨w.heap.size, 0, none⟩ = some (.int .i64 0) := HH3.out.zero.cell 0
            have d1 : w3.cell? ⟨w.heap.size, 1, none⟩ = some (.slice none 0 0) := HH3.out.zero.cell 1
            have d2 : w3.cell? ⟨w.heap.size, 2, none⟩ = some (.slice none 0 0) := HH3.out.zero.cell 2
            have f0 : w3.frozen? ⟨w.heap.size, 0, none⟩ = false := HH3.out.zero.free 0
            have f1 : w3.frozen? ⟨w.heap.size, 1, none⟩ = false := HH3.out.zero.free 1
            have f2 : w3.frozen? ⟨w.heap.size, 2, none⟩ = false := HH3.out.zero.free 2
            go_wp2
            exact bodyPost_ret (v := .agg #[.int .i64 0, .slice none 0 0, .slice none 0 0]) (by simp [results, Try.results47, go_sem, d0, d1, d2]) rfl (Or.inl ⟨hX.out, fin_bad HH3.out hpl 0 none none 0 0 0 0 _ _ _⟩)

theorem typeOne : ∀ (n : Nat), n ≤ 8 → TypeOne n (9 - (n : Int))
  | 0, _ => TypeOne.of (fun w p i s hr hs => type_stops _ w p i s true hr (.inl rfl)) (fun w p i s hr hs => (type_stops _ w p i s false hr (.inr (by decide))).mono fun e w' h => .inl ⟨rfl, h⟩)
  | n + 1, hn => TypeOne.of (fun w p i s hr hs => type_stops _ w p i s true hr (.inl rfl)) (fun w p i s hr hs => type_reads n _ (decide_eq_false (by omega)) (by rw [IntKind.wrap_i64]; omega) (by have h := typeOne n (by omega); rw [show (9 : Int) - ((n + 1 : Nat) : Int) + 1 = 9 - (n : Int) by omega]; exact h) w p i s hr hs)

end Go.Proofs.Ytmacbkcjeamaeaa
