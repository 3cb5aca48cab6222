/- Lemmas: ReadVa. -/
import Derived.Test.YtceclhndagoddaaGreatDoorLawFnValueText_19
import Derived.Test.YtceclhndagoddaaGreatDoorLawFnValueText_20
import Derived.Test.YtceclhndagoddaaGreatDoorLawFnValueText_21

namespace Go.Proofs.YtceclhndagoddaaGreatDoor.V
open Go.RowKit
attribute [local go_sem ↓] Go.wp_at_zero Go.wp_at_succ

/-- A case under way, in block z. -/
structure Tagging (w W : World) (p r z : Nat) (nm : ByteArray) (c : Value) (s : ByteArray) (j : Nat) (bad : Bool) : Prop where
  hold : Hold w W p r s j bad
  box : Whole1 W z 27 #[.int .i64 4, .int .i64 0, .string nm, .slice none 0 0, c]
theorem Tagging.read {w W W' : World} {p r z j j' : Nat} {nm s : ByteArray} {c : Value} {bad bad' : Bool} (h : Tagging w W p r z nm c s j bad) (hr : RdAt W' p s j' bad') (hg : W.grownBy W' (some p)) (hrp : r ≠ p) (hz : z ≠ p) : Tagging w W' p r z nm c s j' bad' :=
  ⟨h.hold.read hr hg hrp, (hg.block z h.box.lt (fun e => by injection e with e; exact hz e)).trans h.box⟩
theorem Tagging.more {w W W' : World} {p r z j B : Nat} {nm s : ByteArray} {c : Value} {bad : Bool} (h : Tagging w W p r z nm c s j bad) (hb : Below B W W') (hr : r < B) (hp : p < B) (hz : z < B) (hB : w.heap.size ≤ B) : Tagging w W' p r z nm c s j bad :=
  ⟨h.hold.more hb hr hp hB, h.box.below hb hz⟩
theorem Tagging.put {w W : World} {p r z j : Nat} {nm s : ByteArray} {c : Value} {bad : Bool} (h : Tagging w W p r z nm c s j bad) (v : Value) (hz : z ≠ p) (hr : z ≠ r) (hw : w.heap.size + 1 ≤ z) : Tagging w (W.setCell ⟨z, 4, none⟩ v) p r z nm v s j bad :=
  ⟨⟨h.hold.rd.block (Below.heap_setCell _ _ _ _ (fun e => hz e.symm)), (Below.heap_setCell _ _ _ _ (fun e => hr e.symm)).trans h.hold.zero, grown_low h.hold.grown ((Below.refl w.heap.size W).setCell (p := ⟨z, 4, none⟩) (by show w.heap.size ≤ z; omega) v) (Nat.le_refl _)⟩, h.box.set 4 v⟩

theorem TypeOne.of {n : Nat} {d : Int} (h0 : ∀ (w : World) (p i : Nat) (s : ByteArray), RdAt w p s i true → s.size ≤ 1048576 → Calls Tryz.prog 26 #[.pointer (some ⟨p, 0, none⟩), .int .i64 d] w (Bads w p s))
    (h1 : ∀ (w : World) (p i : Nat) (s : ByteArray), RdAt w p s i false → s.size ≤ 1048576 → Calls Tryz.prog 26 #[.pointer (some ⟨p, 0, none⟩), .int .i64 d] w (Does (rdVaS n (restOf s i)) w p s)) : TypeOne n d := by
  refine ⟨fun w p i s b hr hs hb => ?_, fun w p i s t r hr hs ht => ?_⟩
  · cases b
    · refine (h1 w p i s hr hs).mono ?_
      rintro e w' (⟨_, h⟩ | ⟨t, r, h, _⟩)
      · exact h
      · rw [hb.resolve_left (by simp)] at h
        cases h
    · exact h0 w p i s hr hs
  · refine (h1 w p i s hr hs).mono ?_
    rintro e w' (⟨h, _⟩ | ⟨t', r', h, hg⟩)
    · rw [ht] at h
      cases h
    · rw [ht] at h
      cases h
      exact hg

set_option maxHeartbeats 1000000 in
theorem type_stops (d : Int) (w : World) (p i : Nat) (s : ByteArray) (b : Bool) (hr : RdAt w p s i b) (hd : b = true ∨ decide (300 < d) = true) : Calls Tryz.prog 26 #[.pointer (some ⟨p, 0, none⟩), .int .i64 d] w (Bads w p s) := by
  have hpl := hr.lt
  obtain ⟨hb0, r0, hs0⟩ := boxes1 w 27 #[.int .i64 0, .int .i64 0, .string ⟨#[]⟩, .slice none 0 0, .slice none 0 0]
  have hr0 := hr.below hb0 hpl
  have H0 := Lib.hid (⟨hr0.setb true, (Below.heap_setCell _ _ _ _ (by show w.heap.size ≠ p; omega)).trans r0, only_set (grown_low (only_refl w (some p)) hb0 (Nat.le_refl _)) 2 _⟩ : Hold w ((w.alloc (.cells #[.int .i64 0, .int .i64 0, .string ⟨#[]⟩, .slice none 0 0, .slice none 0 0] 27)).setCell ⟨p, 2, none⟩ (.bool true)) p w.heap.size s i true)
  have c2 : (w.alloc (.cells #[.int .i64 0, .int .i64 0, .string ⟨#[]⟩, .slice none 0 0, .slice none 0 0] 27)).cell? ⟨p, 2, none⟩ = some (.bool b) := Whole1.cell hr0.1 2
  have f2 : (w.alloc (.cells #[.int .i64 0, .int .i64 0, .string ⟨#[]⟩, .slice none 0 0, .slice none 0 0] 27)).frozen? ⟨p, 2, none⟩ = false := Whole1.free hr0.1 2
  have e0 : ((w.alloc (.cells #[.int .i64 0, .int .i64 0, .string ⟨#[]⟩, .slice none 0 0, .slice none 0 0] 27)).setCell ⟨p, 2, none⟩ (.bool true)).cell? ⟨w.heap.size, 0, none⟩ = some (.int .i64 0) := H0.out.zero.cell 0
  have f10 : ((w.alloc (.cells #[.int .i64 0, .int .i64 0, .string ⟨#[]⟩, .slice none 0 0, .slice none 0 0] 27)).setCell ⟨p, 2, none⟩ (.bool true)).frozen? ⟨w.heap.size, 0, none⟩ = false := H0.out.zero.free 0
  have e1 : ((w.alloc (.cells #[.int .i64 0, .int .i64 0, .string ⟨#[]⟩, .slice none 0 0, .slice none 0 0] 27)).setCell ⟨p, 2, none⟩ (.bool true)).cell? ⟨w.heap.size, 1, none⟩ = some (.int .i64 0) := H0.out.zero.cell 1
  have f11 : ((w.alloc (.cells #[.int .i64 0, .int .i64 0, .string ⟨#[]⟩, .slice none 0 0, .slice none 0 0] 27)).setCell ⟨p, 2, none⟩ (.bool true)).frozen? ⟨w.heap.size, 1, none⟩ = false := H0.out.zero.free 1
  have e2 : ((w.alloc (.cells #[.int .i64 0, .int .i64 0, .string ⟨#[]⟩, .slice none 0 0, .slice none 0 0] 27)).setCell ⟨p, 2, none⟩ (.bool true)).cell? ⟨w.heap.size, 2, none⟩ = some (.string ⟨#[]⟩) := H0.out.zero.cell 2
  have f12 : ((w.alloc (.cells #[.int .i64 0, .int .i64 0, .string ⟨#[]⟩, .slice none 0 0, .slice none 0 0] 27)).setCell ⟨p, 2, none⟩ (.bool true)).frozen? ⟨w.heap.size, 2, none⟩ = false := H0.out.zero.free 2
  have e3 : ((w.alloc (.cells #[.int .i64 0, .int .i64 0, .string ⟨#[]⟩, .slice none 0 0, .slice none 0 0] 27)).setCell ⟨p, 2, none⟩ (.bool true)).cell? ⟨w.heap.size, 3, none⟩ = some (.slice none 0 0) := H0.out.zero.cell 3
  have f13 : ((w.alloc (.cells #[.int .i64 0, .int .i64 0, .string ⟨#[]⟩, .slice none 0 0, .slice none 0 0] 27)).setCell ⟨p, 2, none⟩ (.bool true)).frozen? ⟨w.heap.size, 3, none⟩ = false := H0.out.zero.free 3
  have e4 : ((w.alloc (.cells #[.int .i64 0, .int .i64 0, .string ⟨#[]⟩, .slice none 0 0, .slice none 0 0] 27)).setCell ⟨p, 2, none⟩ (.bool true)).cell? ⟨w.heap.size, 4, none⟩ = some (.slice none 0 0) := H0.out.zero.cell 4
  have f14 : ((w.alloc (.cells #[.int .i64 0, .int .i64 0, .string ⟨#[]⟩, .slice none 0 0, .slice none 0 0] 27)).setCell ⟨p, 2, none⟩ (.bool true)).frozen? ⟨w.heap.size, 4, none⟩ = false := H0.out.zero.free 4
  have d3 : ((w.alloc (.cells #[.int .i64 0, .int .i64 0, .string ⟨#[]⟩, .slice none 0 0, .slice none 0 0] 27)).setCell ⟨p, 2, none⟩ (.bool true)).cell? ⟨p, 2, none⟩ = some (.bool true) := Whole1.cell H0.out.rd.1 2
  clear hr hr0 r0 hb0 hs0
  have hd8 : b = true ∨ b = false ∧ decide (300 < d) = true := by
    rcases hd with h | h
    · exact Or.inl h
    · cases b
      · exact Or.inr ⟨rfl, h⟩
      · exact Or.inl rfl
  clear hd
  go_enter Tryz.func26, Tryz.ntmps26
  go_upto_region 1 with fail
  generalize w.alloc (.cells #[.int .i64 0, .int .i64 0, .string ⟨#[]⟩, .slice none 0 0, .slice none 0 0] 27) = w0 at *
  rcases hd8 with rfl | ⟨rfl, hd8⟩
  all_goals
    go_wp2
    exact bodyPost_ret (v := .agg #[.int .i64 0, .int .i64 0, .string ⟨#[]⟩, .slice none 0 0, .slice none 0 0]) (by simp [results, Tryz.results26, go_sem, e0, e1, e2, e3, e4]) rfl (fin_bad H0.out hpl 0 0 ⟨#[]⟩ none none 0 0 0 0 _ _ _ _ _)

set_option maxHeartbeats 8000000 in
set_option maxRecDepth 100000 in
theorem type_reads (n : Nat) (d : Int) (hd : decide (300 < d) = false) (hwr : IntKind.i64.wrap (d + 1) = d + 1) (H : TypeOne n (d + 1)) (w : World) (p i : Nat) (s : ByteArray) (hr : RdAt w p s i false) (hs : s.size ≤ 1048576) :
    Calls Tryz.prog 26 #[.pointer (some ⟨p, 0, none⟩), .int .i64 d] w (Does (rdVaS (n + 1) (restOf s i)) w p s) := by
  have hpl := hr.lt
  have hrp : w.heap.size ≠ p := by omega
  obtain ⟨hb0, r0, hs0⟩ := boxes1 w 27 #[.int .i64 0, .int .i64 0, .string ⟨#[]⟩, .slice none 0 0, .slice none 0 0]
  have hr0 := hr.below hb0 hpl
  have HH1 := Lib.hid (⟨hr0.setb false, (Below.heap_setCell _ _ _ _ (by show w.heap.size ≠ p; omega)).trans r0, only_set (grown_low (only_refl w (some p)) hb0 (Nat.le_refl _)) 2 _⟩ : Hold w ((w.alloc (.cells #[.int .i64 0, .int .i64 0, .string ⟨#[]⟩, .slice none 0 0, .slice none 0 0] 27)).setCell ⟨p, 2, none⟩ (.bool false)) p w.heap.size s i false)
  have c2 : (w.alloc (.cells #[.int .i64 0, .int .i64 0, .string ⟨#[]⟩, .slice none 0 0, .slice none 0 0] 27)).cell? ⟨p, 2, none⟩ = some (.bool false) := Whole1.cell hr0.1 2
  have f2 : (w.alloc (.cells #[.int .i64 0, .int .i64 0, .string ⟨#[]⟩, .slice none 0 0, .slice none 0 0] 27)).frozen? ⟨p, 2, none⟩ = false := Whole1.free hr0.1 2
  have H2 := Lib.hid H
  clear hr hr0 r0 hb0 hs0 H
  go_enter Tryz.func26, Tryz.ntmps26
  go_upto_region 1 with fail
  generalize w.alloc (.cells #[.int .i64 0, .int .i64 0, .string ⟨#[]⟩, .slice none 0 0, .slice none 0 0] 27) = w0 at *
  go_upto_region 2 with fail
  clear c2 f2
  generalize w0.setCell ⟨p, 2, none⟩ (.bool false) = w1 at *
  have c2 : w1.cell? ⟨p, 2, none⟩ = some (.bool false) := Whole1.cell HH1.out.rd.1 2
  rcases eats_two 35 116 s i with ⟨hk, ha, hc, he⟩ | ⟨he, hno⟩
  · have HT := Lib.hid (take2_yes p i s 35 116 w1 HH1.out.rd hs hk ha hc)
    have hX := Lib.hid (show rdVaS (n + 1) (restOf s i) = some (.mk 2 1 ⟨#[]⟩ [] [], restOf s (i + 2)) by simp only [rdVaS, he])
    clear hc ha he
    go_wp2_with fail
    refine HT.out.mono ?_
    rintro e w2 ⟨rfl, hr2, hg2⟩
    have HH2 := Lib.hid (HH1.out.read hr2 hg2 hrp)
    clear hr2 hg2
    have HI := Lib.hid (l5Bool_any true w2)
    have hs2 := HH2.out.zero.lt
    have hp2 := HH2.out.rd.lt
    have hg2 := HH2.out.grown.size
    go_wp2_with fail
    refine HI.out.mono ?_
    rintro e w3 ⟨rfl, hb⟩
    have HH3 := Lib.hid (HH2.out.more hb hs2 hp2 hg2)
    clear hb
    have e0 : w3.cell? ⟨w.heap.size, 0, none⟩ = some (.int .i64 0) := HH3.out.zero.cell 0
    have f0 : w3.frozen? ⟨w.heap.size, 0, none⟩ = false := HH3.out.zero.free 0
    have e1 : w3.cell? ⟨w.heap.size, 1, none⟩ = some (.int .i64 0) := HH3.out.zero.cell 1
    have f1 : w3.frozen? ⟨w.heap.size, 1, none⟩ = false := HH3.out.zero.free 1
    have e2 : w3.cell? ⟨w.heap.size, 2, none⟩ = some (.string ⟨#[]⟩) := HH3.out.zero.cell 2
    have f2 : w3.frozen? ⟨w.heap.size, 2, none⟩ = false := HH3.out.zero.free 2
    have e3 : w3.cell? ⟨w.heap.size, 3, none⟩ = some (.slice none 0 0) := HH3.out.zero.cell 3
    have f3 : w3.frozen? ⟨w.heap.size, 3, none⟩ = false := HH3.out.zero.free 3
    have e4 : w3.cell? ⟨w.heap.size, 4, none⟩ = some (.slice none 0 0) := HH3.out.zero.cell 4
    have f4 : w3.frozen? ⟨w.heap.size, 4, none⟩ = false := HH3.out.zero.free 4
    go_wp2
    exact bodyPost_ret (v := .agg #[.int .i64 2, .int .i64 1, .string ⟨#[]⟩, .slice none 0 0, .slice none 0 0]) (by simp [results, Tryz.results26, go_sem, e0, e1, e2, e3, e4]) rfl (Or.inr ⟨_, _, hX.out, fin_good HH3.out (OwnVa.leaf _ _ 2 1 ⟨#[]⟩ (by decide)) hpl _ _ _ _ _⟩)
  · have E116 := Lib.hid he
    have HT := Lib.hid (take2_other p i s 35 116 w1 HH1.out.rd hs hno)
    clear he hno
    go_wp2_with fail
    refine HT.out.mono ?_
    rintro e w116 ⟨rfl, hr2, hg2⟩
    have HH1 := Lib.hid (HH1.out.read hr2 hg2 hrp)
    clear hr2 hg2
    rcases eats_two 35 102 s i with ⟨hk, ha, hc, he⟩ | ⟨he, hno⟩
    · have HT := Lib.hid (take2_yes p i s 35 102 w116 HH1.out.rd hs hk ha hc)
      have hX := Lib.hid (show rdVaS (n + 1) (restOf s i) = some (.mk 2 0 ⟨#[]⟩ [] [], restOf s (i + 2)) by simp only [rdVaS, E116.out, he])
      clear hc ha he
      go_wp2_with fail
      refine HT.out.mono ?_
      rintro e w2 ⟨rfl, hr2, hg2⟩
      have HH2 := Lib.hid (HH1.out.read hr2 hg2 hrp)
      clear hr2 hg2
      have HI := Lib.hid (l5Bool_any false w2)
      have hs2 := HH2.out.zero.lt
      have hp2 := HH2.out.rd.lt
      have hg2 := HH2.out.grown.size
      go_wp2_with fail
      refine HI.out.mono ?_
      rintro e w3 ⟨rfl, hb⟩
      have HH3 := Lib.hid (HH2.out.more hb hs2 hp2 hg2)
      clear hb
      have e0 : w3.cell? ⟨w.heap.size, 0, none⟩ = some (.int .i64 0) := HH3.out.zero.cell 0
      have f0 : w3.frozen? ⟨w.heap.size, 0, none⟩ = false := HH3.out.zero.free 0
      have e1 : w3.cell? ⟨w.heap.size, 1, none⟩ = some (.int .i64 0) := HH3.out.zero.cell 1
      have f1 : w3.frozen? ⟨w.heap.size, 1, none⟩ = false := HH3.out.zero.free 1
      have e2 : w3.cell? ⟨w.heap.size, 2, none⟩ = some (.string ⟨#[]⟩) := HH3.out.zero.cell 2
      have f2 : w3.frozen? ⟨w.heap.size, 2, none⟩ = false := HH3.out.zero.free 2
      have e3 : w3.cell? ⟨w.heap.size, 3, none⟩ = some (.slice none 0 0) := HH3.out.zero.cell 3
      have f3 : w3.frozen? ⟨w.heap.size, 3, none⟩ = false := HH3.out.zero.free 3
      have e4 : w3.cell? ⟨w.heap.size, 4, none⟩ = some (.slice none 0 0) := HH3.out.zero.cell 4
      have f4 : w3.frozen? ⟨w.heap.size, 4, none⟩ = false := HH3.out.zero.free 4
      go_wp2
      exact bodyPost_ret (v := .agg #[.int .i64 2, .int .i64 0, .string ⟨#[]⟩, .slice none 0 0, .slice none 0 0]) (by simp [results, Tryz.results26, go_sem, e0, e1, e2, e3, e4]) rfl (Or.inr ⟨_, _, hX.out, fin_good HH3.out (OwnVa.leaf _ _ 2 0 ⟨#[]⟩ (by decide)) hpl _ _ _ _ _⟩)
    · have E102 := Lib.hid he
      have HT := Lib.hid (take2_other p i s 35 102 w116 HH1.out.rd hs hno)
      clear he hno
      go_wp2_with fail
      refine HT.out.mono ?_
      rintro e w102 ⟨rfl, hr2, hg2⟩
      have HH1 := Lib.hid (HH1.out.read hr2 hg2 hrp)
      clear hr2 hg2
      by_cases h123 : ∃ hk : i < s.size, s[i] = 123
      · obtain ⟨hk, hc⟩ := h123
        have HT := Lib.hid (take_yes p i s 123 w102 HH1.out.rd hs hk hc)
        have hX := Lib.hid (show rdVaS (n + 1) (restOf s i) = rdBoxE (rdVaS n) (restOf s (i + 1)) by simp only [rdVaS, E116.out, E102.out, eat_hit hk hc])
        clear hc
        go_wp2_with fail
        refine HT.out.mono ?_
        rintro e w2 ⟨rfl, hr2, hg2⟩
        have HH2 := Lib.hid (HH1.out.read hr2 hg2 hrp)
        clear hr2 hg2
        have HL := Lib.hid (readRec n (d + 1) H2.out w2 p (i + 1) s HH2.out.rd hs)
        have hs2 := HH2.out.zero.lt
        have hp2 := HH2.out.rd.lt
        have hg2 := HH2.out.grown.size
        go_wp2_with fail
        refine HL.out.mono ?_
        rintro e w3 (⟨hn, x, y, nm1, L, n1, lc, A, m, ac, j, rfl, hr3, hg3⟩ | ⟨t, r, hx, v, j, rfl, hrr, hr3, hO, hg3⟩)
        · have HH3 := Lib.hid (HH2.out.read hr3 hg3 hrp)
          have HX := Lib.hid (hX.out.trans hn)
          clear hr3 hg3 hn
          have e0 : w3.cell? ⟨w.heap.size, 0, none⟩ = some (.int .i64 0) := HH3.out.zero.cell 0
          have f0 : w3.frozen? ⟨w.heap.size, 0, none⟩ = false := HH3.out.zero.free 0
          have e1 : w3.cell? ⟨w.heap.size, 1, none⟩ = some (.int .i64 0) := HH3.out.zero.cell 1
          have f1 : w3.frozen? ⟨w.heap.size, 1, none⟩ = false := HH3.out.zero.free 1
          have e2 : w3.cell? ⟨w.heap.size, 2, none⟩ = some (.string ⟨#[]⟩) := HH3.out.zero.cell 2
          have f2 : w3.frozen? ⟨w.heap.size, 2, none⟩ = false := HH3.out.zero.free 2
          have e3 : w3.cell? ⟨w.heap.size, 3, none⟩ = some (.slice none 0 0) := HH3.out.zero.cell 3
          have f3 : w3.frozen? ⟨w.heap.size, 3, none⟩ = false := HH3.out.zero.free 3
          have e4 : w3.cell? ⟨w.heap.size, 4, none⟩ = some (.slice none 0 0) := HH3.out.zero.cell 4
          have f4 : w3.frozen? ⟨w.heap.size, 4, none⟩ = false := HH3.out.zero.free 4
          go_wp2
          exact bodyPost_ret (v := .agg #[.int .i64 x, .int .i64 y, .string nm1, .slice L n1 lc, .slice A m ac]) (by simp [results, Tryz.results26, go_sem, e0, e1, e2, e3, e4]) rfl (Or.inl ⟨HX.out, fin_bad HH3.out hpl x y nm1 L A n1 lc m ac _ _ _ _ _⟩)
        · have HO := Lib.hid (hO.base (base := w.heap.size + 1) (by omega))
          obtain ⟨L3, l3, A3, a3, rfl⟩ := hO.open
          have HH3 := Lib.hid (HH2.out.read hr3 hg3 hrp)
          have HX := Lib.hid (hX.out.trans hx)
          subst hrr
          clear hO hr3 hg3 hx
          have e0 : w3.cell? ⟨w.heap.size, 0, none⟩ = some (.int .i64 0) := HH3.out.zero.cell 0
          have f0 : w3.frozen? ⟨w.heap.size, 0, none⟩ = false := HH3.out.zero.free 0
          have e1 : w3.cell? ⟨w.heap.size, 1, none⟩ = some (.int .i64 0) := HH3.out.zero.cell 1
          have f1 : w3.frozen? ⟨w.heap.size, 1, none⟩ = false := HH3.out.zero.free 1
          have e2 : w3.cell? ⟨w.heap.size, 2, none⟩ = some (.string ⟨#[]⟩) := HH3.out.zero.cell 2
          have f2 : w3.frozen? ⟨w.heap.size, 2, none⟩ = false := HH3.out.zero.free 2
          have e3 : w3.cell? ⟨w.heap.size, 3, none⟩ = some (.slice none 0 0) := HH3.out.zero.cell 3
          have f3 : w3.frozen? ⟨w.heap.size, 3, none⟩ = false := HH3.out.zero.free 3
          have e4 : w3.cell? ⟨w.heap.size, 4, none⟩ = some (.slice none 0 0) := HH3.out.zero.cell 4
          have f4 : w3.frozen? ⟨w.heap.size, 4, none⟩ = false := HH3.out.zero.free 4
          go_wp2
          exact bodyPost_ret (v := .agg #[.int .i64 t.kind, .int .i64 t.num, .string t.name, .slice L3 t.labels.length l3, .slice A3 t.args.length a3]) (by simp [results, Tryz.results26, go_sem, e0, e1, e2, e3, e4]) rfl (Or.inr ⟨_, _, HX.out, fin_good HH3.out HO.out hpl _ _ _ _ _⟩)
      · have E123 := Lib.hid (eat_miss h123)
        have HT := Lib.hid (take_other p i s 123 w102 HH1.out.rd hs (eat_miss h123))
        clear h123
        go_wp2_with fail
        refine HT.out.mono ?_
        rintro e w123 ⟨rfl, hr2, hg2⟩
        have HH1 := Lib.hid (HH1.out.read hr2 hg2 hrp)
        clear hr2 hg2
        by_cases h91 : ∃ hk : i < s.size, s[i] = 91
        · obtain ⟨hk, hc⟩ := h91
          have HT := Lib.hid (take_yes p i s 91 w123 HH1.out.rd hs hk hc)
          have hX := Lib.hid (show rdVaS (n + 1) (restOf s i) = rdList (rdVaS n) (restOf s (i + 1)) by simp only [rdVaS, E116.out, E102.out, E123.out, eat_hit hk hc])
          clear hc
          go_wp2_with fail
          refine HT.out.mono ?_
          rintro e w2 ⟨rfl, hr2, hg2⟩
          have HH2 := Lib.hid (HH1.out.read hr2 hg2 hrp)
          clear hr2 hg2
          have HL := Lib.hid (readList n (d + 1) H2.out w2 p (i + 1) s HH2.out.rd hs)
          have hs2 := HH2.out.zero.lt
          have hp2 := HH2.out.rd.lt
          have hg2 := HH2.out.grown.size
          go_wp2_with fail
          refine HL.out.mono ?_
          rintro e w3 (⟨hn, x, y, nm1, L, n1, lc, A, m, ac, j, rfl, hr3, hg3⟩ | ⟨t, r, hx, v, j, rfl, hrr, hr3, hO, hg3⟩)
          · have HH3 := Lib.hid (HH2.out.read hr3 hg3 hrp)
            have HX := Lib.hid (hX.out.trans hn)
            clear hr3 hg3 hn
            have e0 : w3.cell? ⟨w.heap.size, 0, none⟩ = some (.int .i64 0) := HH3.out.zero.cell 0
            have f0 : w3.frozen? ⟨w.heap.size, 0, none⟩ = false := HH3.out.zero.free 0
            have e1 : w3.cell? ⟨w.heap.size, 1, none⟩ = some (.int .i64 0) := HH3.out.zero.cell 1
            have f1 : w3.frozen? ⟨w.heap.size, 1, none⟩ = false := HH3.out.zero.free 1
            have e2 : w3.cell? ⟨w.heap.size, 2, none⟩ = some (.string ⟨#[]⟩) := HH3.out.zero.cell 2
            have f2 : w3.frozen? ⟨w.heap.size, 2, none⟩ = false := HH3.out.zero.free 2
            have e3 : w3.cell? ⟨w.heap.size, 3, none⟩ = some (.slice none 0 0) := HH3.out.zero.cell 3
            have f3 : w3.frozen? ⟨w.heap.size, 3, none⟩ = false := HH3.out.zero.free 3
            have e4 : w3.cell? ⟨w.heap.size, 4, none⟩ = some (.slice none 0 0) := HH3.out.zero.cell 4
            have f4 : w3.frozen? ⟨w.heap.size, 4, none⟩ = false := HH3.out.zero.free 4
            go_wp2
            exact bodyPost_ret (v := .agg #[.int .i64 x, .int .i64 y, .string nm1, .slice L n1 lc, .slice A m ac]) (by simp [results, Tryz.results26, go_sem, e0, e1, e2, e3, e4]) rfl (Or.inl ⟨HX.out, fin_bad HH3.out hpl x y nm1 L A n1 lc m ac _ _ _ _ _⟩)
          · have HO := Lib.hid (hO.base (base := w.heap.size + 1) (by omega))
            obtain ⟨L3, l3, A3, a3, rfl⟩ := hO.open
            have HH3 := Lib.hid (HH2.out.read hr3 hg3 hrp)
            have HX := Lib.hid (hX.out.trans hx)
            subst hrr
            clear hO hr3 hg3 hx
            have e0 : w3.cell? ⟨w.heap.size, 0, none⟩ = some (.int .i64 0) := HH3.out.zero.cell 0
            have f0 : w3.frozen? ⟨w.heap.size, 0, none⟩ = false := HH3.out.zero.free 0
            have e1 : w3.cell? ⟨w.heap.size, 1, none⟩ = some (.int .i64 0) := HH3.out.zero.cell 1
            have f1 : w3.frozen? ⟨w.heap.size, 1, none⟩ = false := HH3.out.zero.free 1
            have e2 : w3.cell? ⟨w.heap.size, 2, none⟩ = some (.string ⟨#[]⟩) := HH3.out.zero.cell 2
            have f2 : w3.frozen? ⟨w.heap.size, 2, none⟩ = false := HH3.out.zero.free 2
            have e3 : w3.cell? ⟨w.heap.size, 3, none⟩ = some (.slice none 0 0) := HH3.out.zero.cell 3
            have f3 : w3.frozen? ⟨w.heap.size, 3, none⟩ = false := HH3.out.zero.free 3
            have e4 : w3.cell? ⟨w.heap.size, 4, none⟩ = some (.slice none 0 0) := HH3.out.zero.cell 4
            have f4 : w3.frozen? ⟨w.heap.size, 4, none⟩ = false := HH3.out.zero.free 4
            go_wp2
            exact bodyPost_ret (v := .agg #[.int .i64 t.kind, .int .i64 t.num, .string t.name, .slice L3 t.labels.length l3, .slice A3 t.args.length a3]) (by simp [results, Tryz.results26, go_sem, e0, e1, e2, e3, e4]) rfl (Or.inr ⟨_, _, HX.out, fin_good HH3.out HO.out hpl _ _ _ _ _⟩)
        · have E91 := Lib.hid (eat_miss h91)
          have HT := Lib.hid (take_other p i s 91 w123 HH1.out.rd hs (eat_miss h91))
          clear h91
          go_wp2_with fail
          refine HT.out.mono ?_
          rintro e w91 ⟨rfl, hr2, hg2⟩
          have HH1 := Lib.hid (HH1.out.read hr2 hg2 hrp)
          clear hr2 hg2
          by_cases h60 : ∃ hk : i < s.size, s[i] = 60
          · obtain ⟨hk, hc⟩ := h60
            have HT := Lib.hid (take_yes p i s 60 w91 HH1.out.rd hs hk hc)
            have E60 := Lib.hid (eat_hit hk hc)
            clear hc
            go_wp2_with fail
            refine HT.out.mono ?_
            rintro e w2 ⟨rfl, hr2, hg2⟩
            have HH2 := Lib.hid (HH1.out.read hr2 hg2 hrp)
            clear hr2 hg2
            have HW := Lib.hid (word_any p (i + 1) s false w2 HH2.out.rd hs)
            go_wp2_with fail
            refine HW.out.mono ?_
            rintro e w3 ⟨k, hik, ⟨rfl, hr3, hg3⟩, hdw⟩
            have HH3 := Lib.hid (HH2.out.read hr3 hg3 hrp)
            have HDW := Lib.hid hdw
            have hks := hr3.2
            obtain ⟨hb3, t3, hs3⟩ := boxes1 w3 27 #[.int .i64 4, .int .i64 0, .string (s.extract (i + 1) k), .slice none 0 0, .slice none 0 0]
            have hs3' := HH3.out.zero.lt
            have hp3 := HH3.out.rd.lt
            have hg3' := HH3.out.grown.size
            have TB3 := Lib.hid (⟨HH3.out.more hb3 hs3' hp3 hg3', t3⟩ : Tagging w (w3.alloc (.cells #[.int .i64 4, .int .i64 0, .string (s.extract (i + 1) k), .slice none 0 0, .slice none 0 0] 27)) p w.heap.size w3.heap.size (s.extract (i + 1) k) (.slice none 0 0) s k false)
            have hzp : w3.heap.size ≠ p := by omega
            have hrz : w3.heap.size ≠ w.heap.size := by omega
            have hzw : w.heap.size + 1 ≤ w3.heap.size := by omega
            clear hr3 hg3 hdw hb3 t3 hs3
            go_upto_region 14 with fail
            generalize w3.alloc (.cells #[.int .i64 4, .int .i64 0, .string (s.extract (i + 1) k), .slice none 0 0, .slice none 0 0] 27) = w3' at *
            generalize w3.heap.size = z at *
            clear HH3 hs3' hp3 hg3'
            by_cases h32 : ∃ hk : k < s.size, s[k] = 32
            · obtain ⟨hk, hc⟩ := h32
              have HMU := Lib.hid (must_yes p k s 32 w3' TB3.out.hold.rd hs hk hc)
              have E32 := Lib.hid (eat_hit hk hc)
              clear hc
              go_wp2_with fail
              refine HMU.out.mono ?_
              rintro e w4 ⟨rfl, hr4, hg4⟩
              have TB4 := Lib.hid (TB3.out.read hr4 hg4 hrp hzp)
              clear hr4 hg4 TB3
              cases hty : rdVaS n (restOf s (k + 1)) with
              | none =>
                have hX := Lib.hid (show rdVaS (n + 1) (restOf s i) = none by simp only [rdVaS, E116.out, E102.out, E123.out, E91.out, E60.out, rdTag, HDW.out.1, E32.out, hty])
                have HVB := H2.out.bad w4 p (k + 1) s false TB4.out.hold.rd hs (Or.inr hty)
                clear hty
                have HV := Lib.hid (HVB)
                go_wp2_with fail
                refine HV.out.mono ?_
                rintro e w5 ⟨x, y, nm1, L, n1, lc, A, m, ac, j, rfl, hr5, hg5⟩
                have TB5 := TB4.out.read hr5 hg5 hrp hzp
                obtain ⟨hb6, t6, hs6⟩ := boxes1 w5 27 #[.int .i64 x, .int .i64 y, .string nm1, .slice L n1 lc, .slice A m ac]
                have TB6 := Lib.hid (TB5.more hb6 TB5.hold.zero.lt TB5.hold.rd.lt TB5.box.lt TB5.hold.grown.size)
                have k6 : (w5.alloc (.cells #[.int .i64 x, .int .i64 y, .string nm1, .slice L n1 lc, .slice A m ac] 27)).frozen? ⟨z, 4, none⟩ = false := TB6.out.box.free 4
                have k7 : (w5.alloc (.cells #[.int .i64 x, .int .i64 y, .string nm1, .slice L n1 lc, .slice A m ac] 27)).cell? ⟨z, 4, none⟩ = some (.slice none 0 0) := TB6.out.box.cell 4
                have TB7 := Lib.hid (TB6.out.put (.slice (some ⟨w5.heap.size, 0, none⟩) 1 1) hzp hrz hzw)
                clear TB5 hb6 t6 hs6 hr5 hg5
                go_upto_region 16 with fail
                clear k6 k7
                generalize (w5.alloc (.cells #[.int .i64 x, .int .i64 y, .string nm1, .slice L n1 lc, .slice A m ac] 27)).setCell ⟨z, 4, none⟩ (.slice (some ⟨w5.heap.size, 0, none⟩) 1 1) = w7 at *
                have HMU := Lib.hid (must_no p j s true 62 w7 TB7.out.hold.rd hs (Or.inl rfl))
                go_wp2_with fail
                refine HMU.out.mono ?_
                rintro e w8 ⟨rfl, hr8, hg8⟩
                have TB8 := Lib.hid (TB7.out.read hr8 hg8 hrp hzp)
                clear hr8 hg8
                have d0 : w8.cell? ⟨z, 0, none⟩ = some (.int .i64 4) := TB8.out.box.cell 0
                have d1 : w8.cell? ⟨z, 1, none⟩ = some (.int .i64 0) := TB8.out.box.cell 1
                have d2 : w8.cell? ⟨z, 2, none⟩ = some (.string (s.extract (i + 1) k)) := TB8.out.box.cell 2
                have d3 : w8.cell? ⟨z, 3, none⟩ = some (.slice none 0 0) := TB8.out.box.cell 3
                have d4 : w8.cell? ⟨z, 4, none⟩ = some (.slice (some ⟨w5.heap.size, 0, none⟩) 1 1) := TB8.out.box.cell 4
                have HH8 := Lib.hid TB8.out.hold
                have e0 : w8.cell? ⟨w.heap.size, 0, none⟩ = some (.int .i64 0) := HH8.out.zero.cell 0
                have f0 : w8.frozen? ⟨w.heap.size, 0, none⟩ = false := HH8.out.zero.free 0
                have e1 : w8.cell? ⟨w.heap.size, 1, none⟩ = some (.int .i64 0) := HH8.out.zero.cell 1
                have f1 : w8.frozen? ⟨w.heap.size, 1, none⟩ = false := HH8.out.zero.free 1
                have e2 : w8.cell? ⟨w.heap.size, 2, none⟩ = some (.string ⟨#[]⟩) := HH8.out.zero.cell 2
                have f2 : w8.frozen? ⟨w.heap.size, 2, none⟩ = false := HH8.out.zero.free 2
                have e3 : w8.cell? ⟨w.heap.size, 3, none⟩ = some (.slice none 0 0) := HH8.out.zero.cell 3
                have f3 : w8.frozen? ⟨w.heap.size, 3, none⟩ = false := HH8.out.zero.free 3
                have e4 : w8.cell? ⟨w.heap.size, 4, none⟩ = some (.slice none 0 0) := HH8.out.zero.cell 4
                have f4 : w8.frozen? ⟨w.heap.size, 4, none⟩ = false := HH8.out.zero.free 4
                go_wp2
                exact bodyPost_ret (v := .agg #[.int .i64 4, .int .i64 0, .string (s.extract (i + 1) k), .slice none 0 0, .slice (some ⟨w5.heap.size, 0, none⟩) 1 1]) (by simp [results, Tryz.results26, go_sem, e0, e1, e2, e3, e4]) rfl (Or.inl ⟨hX.out, fin_bad HH8.out hpl 4 0 (s.extract (i + 1) k) none (some ⟨w5.heap.size, 0, none⟩) 0 0 1 1 _ _ _ _ _⟩)
              | some tr =>
                obtain ⟨t, r⟩ := tr
                have HVG := H2.out.good w4 p (k + 1) s t r TB4.out.hold.rd hs hty
                have HTY := Lib.hid hty
                clear hty
                have HV := Lib.hid (HVG)
                go_wp2_with fail
                refine HV.out.mono ?_
                rintro e w5 ⟨v, j, rfl, hrr, hr5, hO5, hg5⟩
                have hI5' := hO5.owned
                obtain ⟨L5, l5, A5, a5, rfl⟩ := hO5.open
                have HRR := Lib.hid hrr
                clear hO5 hrr
                have TB5 := TB4.out.read hr5 hg5 hrp hzp
                obtain ⟨hb6, t6, hs6⟩ := boxes1 w5 27 #[.int .i64 t.kind, .int .i64 t.num, .string t.name, .slice L5 t.labels.length l5, .slice A5 t.args.length a5]
                have TB6 := Lib.hid (TB5.more hb6 TB5.hold.zero.lt TB5.hold.rd.lt TB5.box.lt TB5.hold.grown.size)
                have k6 : (w5.alloc (.cells #[.int .i64 t.kind, .int .i64 t.num, .string t.name, .slice L5 t.labels.length l5, .slice A5 t.args.length a5] 27)).frozen? ⟨z, 4, none⟩ = false := TB6.out.box.free 4
                have k7 : (w5.alloc (.cells #[.int .i64 t.kind, .int .i64 t.num, .string t.name, .slice L5 t.labels.length l5, .slice A5 t.args.length a5] 27)).cell? ⟨z, 4, none⟩ = some (.slice none 0 0) := TB6.out.box.cell 4
                have TB7 := Lib.hid (TB6.out.put (.slice (some ⟨w5.heap.size, 0, none⟩) 1 1) hzp hrz hzw)
                have hI5 := Lib.hid hI5'
                obtain ⟨xs, vs, lo, hi, hG⟩ := vgather_one (base := z + 1) (by have := TB4.out.box.lt; omega) (by have := hg5.size; omega) hI5.out
                have HA7 := Lib.hid (OwnVAt.setz (i := 4) (⟨by show (s.extract (i + 1) k).size ≤ maxLen; rw [ByteArray.size_extract]; unfold maxLen; omega, fun i h => absurd h (by simp [Va.labels]), by unfold maxLen; simp [Va.args], World.ownsRow_nil _ _ _ 1, hG, fun gl h => by cases h⟩ : OwnVAt (w5.alloc (.cells #[.int .i64 t.kind, .int .i64 t.num, .string t.name, .slice L5 t.labels.length l5, .slice A5 t.args.length a5] 27)) (z + 1) none 0 (some ⟨w5.heap.size, 0, none⟩) 1 (.mk 4 0 (s.extract (i + 1) k) [] [t]) xs vs lo hi) (.slice (some ⟨w5.heap.size, 0, none⟩) 1 1))
                clear hG hI5 hI5'
                clear TB5 hb6 t6 hs6 hr5 hg5
                go_upto_region 16 with fail
                clear k6 k7
                generalize (w5.alloc (.cells #[.int .i64 t.kind, .int .i64 t.num, .string t.name, .slice L5 t.labels.length l5, .slice A5 t.args.length a5] 27)).setCell ⟨z, 4, none⟩ (.slice (some ⟨w5.heap.size, 0, none⟩) 1 1) = w7 at *
                by_cases h62 : ∃ hk : j < s.size, s[j] = 62
                · obtain ⟨hk9, hc9⟩ := h62
                  have hX := Lib.hid (show rdVaS (n + 1) (restOf s i) = some (.mk 4 0 (s.extract (i + 1) k) [] [t], restOf s (j + 1)) by simp only [rdVaS, E116.out, E102.out, E123.out, E91.out, E60.out, rdTag, HDW.out.1, HDW.out.2, E32.out, HTY.out, HRR.out, eat_hit hk9 hc9])
                  have HMU := Lib.hid (must_yes p j s 62 w7 TB7.out.hold.rd hs hk9 hc9)
                  go_wp2_with fail
                  refine HMU.out.mono ?_
                  rintro e w8 ⟨rfl, hr8, hg8⟩
                  have TB8 := Lib.hid (TB7.out.read hr8 hg8 hrp hzp)
                  have HA8 := Lib.hid (HA7.out.grown hg8 (by omega))
                  clear hr8 hg8
                  have d0 : w8.cell? ⟨z, 0, none⟩ = some (.int .i64 4) := TB8.out.box.cell 0
                  have d1 : w8.cell? ⟨z, 1, none⟩ = some (.int .i64 0) := TB8.out.box.cell 1
                  have d2 : w8.cell? ⟨z, 2, none⟩ = some (.string (s.extract (i + 1) k)) := TB8.out.box.cell 2
                  have d3 : w8.cell? ⟨z, 3, none⟩ = some (.slice none 0 0) := TB8.out.box.cell 3
                  have d4 : w8.cell? ⟨z, 4, none⟩ = some (.slice (some ⟨w5.heap.size, 0, none⟩) 1 1) := TB8.out.box.cell 4
                  have HH8 := Lib.hid TB8.out.hold
                  have e0 : w8.cell? ⟨w.heap.size, 0, none⟩ = some (.int .i64 0) := HH8.out.zero.cell 0
                  have f0 : w8.frozen? ⟨w.heap.size, 0, none⟩ = false := HH8.out.zero.free 0
                  have e1 : w8.cell? ⟨w.heap.size, 1, none⟩ = some (.int .i64 0) := HH8.out.zero.cell 1
                  have f1 : w8.frozen? ⟨w.heap.size, 1, none⟩ = false := HH8.out.zero.free 1
                  have e2 : w8.cell? ⟨w.heap.size, 2, none⟩ = some (.string ⟨#[]⟩) := HH8.out.zero.cell 2
                  have f2 : w8.frozen? ⟨w.heap.size, 2, none⟩ = false := HH8.out.zero.free 2
                  have e3 : w8.cell? ⟨w.heap.size, 3, none⟩ = some (.slice none 0 0) := HH8.out.zero.cell 3
                  have f3 : w8.frozen? ⟨w.heap.size, 3, none⟩ = false := HH8.out.zero.free 3
                  have e4 : w8.cell? ⟨w.heap.size, 4, none⟩ = some (.slice none 0 0) := HH8.out.zero.cell 4
                  have f4 : w8.frozen? ⟨w.heap.size, 4, none⟩ = false := HH8.out.zero.free 4
                  go_wp2
                  exact bodyPost_ret (v := .agg #[.int .i64 4, .int .i64 0, .string (s.extract (i + 1) k), .slice none 0 0, .slice (some ⟨w5.heap.size, 0, none⟩) 1 1]) (by simp [results, Tryz.results26, go_sem, e0, e1, e2, e3, e4]) rfl (Or.inr ⟨_, _, hX.out, fin_good HH8.out (HA8.out.own.base (by omega)) hpl _ _ _ _ _⟩)
                · have hX := Lib.hid (show rdVaS (n + 1) (restOf s i) = none by simp only [rdVaS, E116.out, E102.out, E123.out, E91.out, E60.out, rdTag, HDW.out.1, E32.out, HTY.out, HRR.out, eat_miss h62])
                  have HMU := Lib.hid (must_no p j s false 62 w7 TB7.out.hold.rd hs (Or.inr (eat_miss h62)))
                  go_wp2_with fail
                  refine HMU.out.mono ?_
                  rintro e w8 ⟨rfl, hr8, hg8⟩
                  have TB8 := Lib.hid (TB7.out.read hr8 hg8 hrp hzp)
                  clear hr8 hg8
                  have d0 : w8.cell? ⟨z, 0, none⟩ = some (.int .i64 4) := TB8.out.box.cell 0
                  have d1 : w8.cell? ⟨z, 1, none⟩ = some (.int .i64 0) := TB8.out.box.cell 1
                  have d2 : w8.cell? ⟨z, 2, none⟩ = some (.string (s.extract (i + 1) k)) := TB8.out.box.cell 2
                  have d3 : w8.cell? ⟨z, 3, none⟩ = some (.slice none 0 0) := TB8.out.box.cell 3
                  have d4 : w8.cell? ⟨z, 4, none⟩ = some (.slice (some ⟨w5.heap.size, 0, none⟩) 1 1) := TB8.out.box.cell 4
                  have HH8 := Lib.hid TB8.out.hold
                  have e0 : w8.cell? ⟨w.heap.size, 0, none⟩ = some (.int .i64 0) := HH8.out.zero.cell 0
                  have f0 : w8.frozen? ⟨w.heap.size, 0, none⟩ = false := HH8.out.zero.free 0
                  have e1 : w8.cell? ⟨w.heap.size, 1, none⟩ = some (.int .i64 0) := HH8.out.zero.cell 1
                  have f1 : w8.frozen? ⟨w.heap.size, 1, none⟩ = false := HH8.out.zero.free 1
                  have e2 : w8.cell? ⟨w.heap.size, 2, none⟩ = some (.string ⟨#[]⟩) := HH8.out.zero.cell 2
                  have f2 : w8.frozen? ⟨w.heap.size, 2, none⟩ = false := HH8.out.zero.free 2
                  have e3 : w8.cell? ⟨w.heap.size, 3, none⟩ = some (.slice none 0 0) := HH8.out.zero.cell 3
                  have f3 : w8.frozen? ⟨w.heap.size, 3, none⟩ = false := HH8.out.zero.free 3
                  have e4 : w8.cell? ⟨w.heap.size, 4, none⟩ = some (.slice none 0 0) := HH8.out.zero.cell 4
                  have f4 : w8.frozen? ⟨w.heap.size, 4, none⟩ = false := HH8.out.zero.free 4
                  go_wp2
                  exact bodyPost_ret (v := .agg #[.int .i64 4, .int .i64 0, .string (s.extract (i + 1) k), .slice none 0 0, .slice (some ⟨w5.heap.size, 0, none⟩) 1 1]) (by simp [results, Tryz.results26, go_sem, e0, e1, e2, e3, e4]) rfl (Or.inl ⟨hX.out, fin_bad HH8.out hpl 4 0 (s.extract (i + 1) k) none (some ⟨w5.heap.size, 0, none⟩) 0 0 1 1 _ _ _ _ _⟩)
            · have HMU := Lib.hid (must_no p k s false 32 w3' TB3.out.hold.rd hs (Or.inr (eat_miss h32)))
              have hX := Lib.hid (show rdVaS (n + 1) (restOf s i) = none by simp only [rdVaS, E116.out, E102.out, E123.out, E91.out, E60.out, rdTag, HDW.out.1, eat_miss h32])
              clear h32
              go_wp2_with fail
              refine HMU.out.mono ?_
              rintro e w4 ⟨rfl, hr4, hg4⟩
              have TB4 := Lib.hid (TB3.out.read hr4 hg4 hrp hzp)
              have HVB := H2.out.bad w4 p k s true TB4.out.hold.rd hs (Or.inl rfl)
              clear hr4 hg4 TB3
              have HV := Lib.hid (HVB)
              go_wp2_with fail
              refine HV.out.mono ?_
              rintro e w5 ⟨x, y, nm1, L, n1, lc, A, m, ac, j, rfl, hr5, hg5⟩
              have TB5 := TB4.out.read hr5 hg5 hrp hzp
              obtain ⟨hb6, t6, hs6⟩ := boxes1 w5 27 #[.int .i64 x, .int .i64 y, .string nm1, .slice L n1 lc, .slice A m ac]
              have TB6 := Lib.hid (TB5.more hb6 TB5.hold.zero.lt TB5.hold.rd.lt TB5.box.lt TB5.hold.grown.size)
              have k6 : (w5.alloc (.cells #[.int .i64 x, .int .i64 y, .string nm1, .slice L n1 lc, .slice A m ac] 27)).frozen? ⟨z, 4, none⟩ = false := TB6.out.box.free 4
              have k7 : (w5.alloc (.cells #[.int .i64 x, .int .i64 y, .string nm1, .slice L n1 lc, .slice A m ac] 27)).cell? ⟨z, 4, none⟩ = some (.slice none 0 0) := TB6.out.box.cell 4
              have TB7 := Lib.hid (TB6.out.put (.slice (some ⟨w5.heap.size, 0, none⟩) 1 1) hzp hrz hzw)
              clear TB5 hb6 t6 hs6 hr5 hg5
              go_upto_region 16 with fail
              clear k6 k7
              generalize (w5.alloc (.cells #[.int .i64 x, .int .i64 y, .string nm1, .slice L n1 lc, .slice A m ac] 27)).setCell ⟨z, 4, none⟩ (.slice (some ⟨w5.heap.size, 0, none⟩) 1 1) = w7 at *
              have HMU := Lib.hid (must_no p j s true 62 w7 TB7.out.hold.rd hs (Or.inl rfl))
              go_wp2_with fail
              refine HMU.out.mono ?_
              rintro e w8 ⟨rfl, hr8, hg8⟩
              have TB8 := Lib.hid (TB7.out.read hr8 hg8 hrp hzp)
              clear hr8 hg8
              have d0 : w8.cell? ⟨z, 0, none⟩ = some (.int .i64 4) := TB8.out.box.cell 0
              have d1 : w8.cell? ⟨z, 1, none⟩ = some (.int .i64 0) := TB8.out.box.cell 1
              have d2 : w8.cell? ⟨z, 2, none⟩ = some (.string (s.extract (i + 1) k)) := TB8.out.box.cell 2
              have d3 : w8.cell? ⟨z, 3, none⟩ = some (.slice none 0 0) := TB8.out.box.cell 3
              have d4 : w8.cell? ⟨z, 4, none⟩ = some (.slice (some ⟨w5.heap.size, 0, none⟩) 1 1) := TB8.out.box.cell 4
              have HH8 := Lib.hid TB8.out.hold
              have e0 : w8.cell? ⟨w.heap.size, 0, none⟩ = some (.int .i64 0) := HH8.out.zero.cell 0
              have f0 : w8.frozen? ⟨w.heap.size, 0, none⟩ = false := HH8.out.zero.free 0
              have e1 : w8.cell? ⟨w.heap.size, 1, none⟩ = some (.int .i64 0) := HH8.out.zero.cell 1
              have f1 : w8.frozen? ⟨w.heap.size, 1, none⟩ = false := HH8.out.zero.free 1
              have e2 : w8.cell? ⟨w.heap.size, 2, none⟩ = some (.string ⟨#[]⟩) := HH8.out.zero.cell 2
              have f2 : w8.frozen? ⟨w.heap.size, 2, none⟩ = false := HH8.out.zero.free 2
              have e3 : w8.cell? ⟨w.heap.size, 3, none⟩ = some (.slice none 0 0) := HH8.out.zero.cell 3
              have f3 : w8.frozen? ⟨w.heap.size, 3, none⟩ = false := HH8.out.zero.free 3
              have e4 : w8.cell? ⟨w.heap.size, 4, none⟩ = some (.slice none 0 0) := HH8.out.zero.cell 4
              have f4 : w8.frozen? ⟨w.heap.size, 4, none⟩ = false := HH8.out.zero.free 4
              go_wp2
              exact bodyPost_ret (v := .agg #[.int .i64 4, .int .i64 0, .string (s.extract (i + 1) k), .slice none 0 0, .slice (some ⟨w5.heap.size, 0, none⟩) 1 1]) (by simp [results, Tryz.results26, go_sem, e0, e1, e2, e3, e4]) rfl (Or.inl ⟨hX.out, fin_bad HH8.out hpl 4 0 (s.extract (i + 1) k) none (some ⟨w5.heap.size, 0, none⟩) 0 0 1 1 _ _ _ _ _⟩)
          · have E60 := Lib.hid (eat_miss h60)
            have HT := Lib.hid (take_other p i s 60 w91 HH1.out.rd hs (eat_miss h60))
            have hX := Lib.hid (show rdVaS (n + 1) (restOf s i) = rdIntV (restOf s i) by simp only [rdVaS, E116.out, E102.out, E123.out, E91.out, eat_miss h60])
            clear h60
            go_wp2_with fail
            refine HT.out.mono ?_
            rintro e w2 ⟨rfl, hr2, hg2⟩
            have HH2 := Lib.hid (HH1.out.read hr2 hg2 hrp)
            clear hr2 hg2
            have HL := Lib.hid (readInt w2 p i s HH2.out.rd hs)
            have hs2 := HH2.out.zero.lt
            have hp2 := HH2.out.rd.lt
            have hg2 := HH2.out.grown.size
            go_wp2_with fail
            refine HL.out.mono ?_
            rintro e w3 (⟨hn, x, y, nm1, L, n1, lc, A, m, ac, j, rfl, hr3, hg3⟩ | ⟨t, r, hx, v, j, rfl, hrr, hr3, hO, hg3⟩)
            · have HH3 := Lib.hid (HH2.out.read hr3 hg3 hrp)
              have HX := Lib.hid (hX.out.trans hn)
              clear hr3 hg3 hn
              have e0 : w3.cell? ⟨w.heap.size, 0, none⟩ = some (.int .i64 0) := HH3.out.zero.cell 0
              have f0 : w3.frozen? ⟨w.heap.size, 0, none⟩ = false := HH3.out.zero.free 0
              have e1 : w3.cell? ⟨w.heap.size, 1, none⟩ = some (.int .i64 0) := HH3.out.zero.cell 1
              have f1 : w3.frozen? ⟨w.heap.size, 1, none⟩ = false := HH3.out.zero.free 1
              have e2 : w3.cell? ⟨w.heap.size, 2, none⟩ = some (.string ⟨#[]⟩) := HH3.out.zero.cell 2
              have f2 : w3.frozen? ⟨w.heap.size, 2, none⟩ = false := HH3.out.zero.free 2
              have e3 : w3.cell? ⟨w.heap.size, 3, none⟩ = some (.slice none 0 0) := HH3.out.zero.cell 3
              have f3 : w3.frozen? ⟨w.heap.size, 3, none⟩ = false := HH3.out.zero.free 3
              have e4 : w3.cell? ⟨w.heap.size, 4, none⟩ = some (.slice none 0 0) := HH3.out.zero.cell 4
              have f4 : w3.frozen? ⟨w.heap.size, 4, none⟩ = false := HH3.out.zero.free 4
              go_wp2
              exact bodyPost_ret (v := .agg #[.int .i64 x, .int .i64 y, .string nm1, .slice L n1 lc, .slice A m ac]) (by simp [results, Tryz.results26, go_sem, e0, e1, e2, e3, e4]) rfl (Or.inl ⟨HX.out, fin_bad HH3.out hpl x y nm1 L A n1 lc m ac _ _ _ _ _⟩)
            · have HO := Lib.hid (hO.base (base := w.heap.size + 1) (by omega))
              obtain ⟨L3, l3, A3, a3, rfl⟩ := hO.open
              have HH3 := Lib.hid (HH2.out.read hr3 hg3 hrp)
              have HX := Lib.hid (hX.out.trans hx)
              subst hrr
              clear hO hr3 hg3 hx
              have e0 : w3.cell? ⟨w.heap.size, 0, none⟩ = some (.int .i64 0) := HH3.out.zero.cell 0
              have f0 : w3.frozen? ⟨w.heap.size, 0, none⟩ = false := HH3.out.zero.free 0
              have e1 : w3.cell? ⟨w.heap.size, 1, none⟩ = some (.int .i64 0) := HH3.out.zero.cell 1
              have f1 : w3.frozen? ⟨w.heap.size, 1, none⟩ = false := HH3.out.zero.free 1
              have e2 : w3.cell? ⟨w.heap.size, 2, none⟩ = some (.string ⟨#[]⟩) := HH3.out.zero.cell 2
              have f2 : w3.frozen? ⟨w.heap.size, 2, none⟩ = false := HH3.out.zero.free 2
              have e3 : w3.cell? ⟨w.heap.size, 3, none⟩ = some (.slice none 0 0) := HH3.out.zero.cell 3
              have f3 : w3.frozen? ⟨w.heap.size, 3, none⟩ = false := HH3.out.zero.free 3
              have e4 : w3.cell? ⟨w.heap.size, 4, none⟩ = some (.slice none 0 0) := HH3.out.zero.cell 4
              have f4 : w3.frozen? ⟨w.heap.size, 4, none⟩ = false := HH3.out.zero.free 4
              go_wp2
              exact bodyPost_ret (v := .agg #[.int .i64 t.kind, .int .i64 t.num, .string t.name, .slice L3 t.labels.length l3, .slice A3 t.args.length a3]) (by simp [results, Tryz.results26, go_sem, e0, e1, e2, e3, e4]) rfl (Or.inr ⟨_, _, HX.out, fin_good HH3.out HO.out hpl _ _ _ _ _⟩)

theorem typeOne : ∀ (n : Nat), n ≤ 300 → TypeOne n (301 - (n : Int))
  | 0, _ => TypeOne.of (fun w p i s hr hs => type_stops _ w p i s true hr (.inl rfl)) (fun w p i s hr hs => (type_stops _ w p i s false hr (.inr (by decide))).mono fun e w' h => .inl ⟨rfl, h⟩)
  | n + 1, hn => TypeOne.of (fun w p i s hr hs => type_stops _ w p i s true hr (.inl rfl)) (fun w p i s hr hs => type_reads n _ (decide_eq_false (by omega)) (by rw [IntKind.wrap_i64]; omega) (by have h := typeOne n (by omega); rw [show (301 : Int) - ((n + 1 : Nat) : Int) + 1 = 301 - (n : Int) by omega]; exact h) w p i s hr hs)

end Go.Proofs.YtceclhndagoddaaGreatDoor.V
