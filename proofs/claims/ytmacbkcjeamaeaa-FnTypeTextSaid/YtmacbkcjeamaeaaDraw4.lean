/- The draws of the syntax of types. -/
import Derived.Test.YtmacbkcjeamaeaaDraw3b
import Derived.Test.YtmacbkcjeamaeaaSpecText
namespace Go.Proofs.Ytmacbkcjeamaeaa
open Go.RowKit
attribute [local go_sem ↓] Go.wp_at_zero Go.wp_at_succ

set_option maxHeartbeats 1000000 in
theorem drawFormatType_any (A : Option Addr) (n cap : Nat) (w : World) (hA : BytesAt w w.heap.size A n) (hn : n ≤ 2 ^ 47) :
    Calls Try.prog 9 #[.slice A n cap] w (GivesTy w) := by
  obtain ⟨hb0, r0, hs0⟩ := boxes1 w 27 #[.int .i64 0, .slice none 0 0, .slice none 0 0]
  have hc := Lib.hid (l1New_any A n cap (w.alloc (.cells #[.int .i64 0, .slice none 0 0, .slice none 0 0] 27)) (hA.alloc _) hn)
  have hp := Lib.hid (fun p B W h => specBent_any p B W h)
  clear hA
  go_enter Try.func9, Try.ntmps9
  go_wp2_with fail
  refine hc.out.mono ?_
  rintro e w1 ⟨p, rfl, hc1, hb1⟩
  go_wp2_with fail
  refine (hp.out p _ w1 hc1).mono ?_
  rintro e w2 ⟨⟨v, t, rfl, hO, hz⟩, hc2, hg2⟩
  have hi := hO.owned
  obtain ⟨L, lc, A2, ac, rfl⟩ := hO.open
  have hs1 := hb1.size
  have hb2 := below_only hb1 hg2 hb1.size hc1.low
  have r2 := r0.below hb2 r0.lt
  rw [hs0] at hs1
  have hbw := hb0.trans (hb2.mono hb0.size)
  have d0 : w2.cell? ⟨w.heap.size, 0, none⟩ = some (.int .i64 0) := r2.cell 0
  have d1 : w2.cell? ⟨w.heap.size, 1, none⟩ = some (.slice none 0 0) := r2.cell 1
  have d2 : w2.cell? ⟨w.heap.size, 2, none⟩ = some (.slice none 0 0) := r2.cell 2
  have f0 : w2.frozen? ⟨w.heap.size, 0, none⟩ = false := r2.free 0
  have f1 : w2.frozen? ⟨w.heap.size, 1, none⟩ = false := r2.free 1
  have f2 : w2.frozen? ⟨w.heap.size, 2, none⟩ = false := r2.free 2
  have HF : Hid (∀ a b c, GivesTy w (.returned (.agg #[.int .i64 t.kind, .slice L t.labels.length lc, .slice A2 t.args.length ac])) (((w2.setCell ⟨w.heap.size, 0, none⟩ a).setCell ⟨w.heap.size, 1, none⟩ b).setCell ⟨w.heap.size, 2, none⟩ c)) := Lib.hid (fun a b c => ⟨⟨_, t, rfl, tyIn_set3 hi w.heap.size w.heap.size (by omega) (by omega) a b c, hz⟩, ((hbw.setCell (by simp) _).setCell (by simp) _).setCell (by simp) _⟩)
  clear hi hO hc1 hb1 hc2 hg2 hb2 r2 r0 hb0
  go_wp2
  exact bodyPost_ret (v := .agg #[.int .i64 t.kind, .slice L t.labels.length lc, .slice A2 t.args.length ac]) (by simp [results, Try.results9, go_sem, d0, d1, d2]) rfl (HF.out _ _ _)


theorem StrsAt.grown {w w' : World} {D p : Nat} {A : Option Addr} {ss : List ByteArray} (h : StrsAt w D A ss) (hg : w.grownBy w' (some p)) (hne : ∀ q b off, A = some ⟨b, off, q⟩ → b ≠ p) : StrsAt w' D A ss := fun i hi => by
  obtain ⟨b, off, h1, h2, h3⟩ := h i hi
  exact ⟨b, off, h1, h2, (World.cell?_of_block (w := w) (hg.block b (block_lt_of_cell h3) (fun e => hne _ b off h1 (by injection e)))).trans h3⟩

theorem grown_drew {w w' : World} {row : Option Nat} (h : w.drew.grownBy w' row) : w.grownBy w' row := ⟨h.os, h.tape, h.output, h.size, h.block⟩
/-- A text of n bytes at most is handed back; only the cursor has turned. -/
def DrawnTxt (w : World) (B p n : Nat) (e : Ending) (w' : World) : Prop := (∃ x : ByteArray, e = .returned (.string x) ∧ x.size ≤ n) ∧ CurAt w' B p ∧ w.grownBy w' (some p)

set_option maxHeartbeats 4000000 in
theorem turned_any (p B D c : Nat) (A : Option Addr) (ss : List ByteArray) (s : ByteArray) (w : World) (hc : CurAt w B p) (hA : StrsAt w D A ss) (hne : ∀ q b off, A = some ⟨b, off, q⟩ → b ≠ p) (h0 : 0 < ss.length) (h1 : ss.length ≤ 1000000) (hz : ∀ x ∈ ss, x.size ≤ 8) (hs : s.size ≤ 1000000) :
    Calls Try.prog 46 #[.pointer (some ⟨p, 0, none⟩), .string s, .slice A ss.length c] w (DrawnTxt w B p (s.size + 8)) := by
  have hd := Lib.hid (l1Below_any p B ((s.size : Int) + 1) w hc (by omega) (by omega))
  have hwr : IntKind.i64.wrap ((s.size : Int) + 1) = (s.size : Int) + 1 := by rw [IntKind.wrap_i64]; omega
  have HZ := Lib.hid hz
  clear hc hz
  go_enter Try.func46, Try.ntmps46
  go_wp2_with fail
  refine hd.out.mono ?_
  rintro e w1 ⟨⟨x, rfl, hx0, hx1⟩, hc1, hg1⟩
  obtain ⟨k, rfl⟩ : ∃ k : Nat, x = k := ⟨x.toNat, by omega⟩
  have hA1 := hA.grown hg1 hne
  have hd2 := Lib.hid (l1Below_any p B 6 w1 hc1 (by omega) (by omega))
  clear hc1 hA hd
  go_wp2_with fail
  refine hd2.out.mono ?_
  rintro e w2 ⟨⟨y, rfl, hy0, hy1⟩, hc2, hg2⟩
  have hA2 := hA1.grown hg2 hne
  have hg12 := only_trans hg1 hg2
  have hk0 : (0 : Int) ≤ (k : Int) := by omega
  have hk1 : (k : Int) ≤ (s.size : Int) := by omega
  have hk2 : k ≤ s.size := by omega
  clear hA1 hd2 hg1 hg2
  by_cases y0 : y = 0
  · subst y0
    have HP := Lib.hid (l1Pick_any p B D c A ss w2.drew (CurAt.belowP hc2 (Below.refl w2.heap.size w2).drew hc2.lt) hA2 hne h0 h1)
    have HG := Lib.hid hg12
    clear hc2 hA2 hne hg12
    go_wp2
    go_region_law (first | (go_simp; go_at_call 61; (with_reducible refine HP.out.mono ?_); rintro e w4 ⟨⟨z, rfl, hzm⟩, hc4, hg4'⟩; have hg4 := only_trans HG.out (grown_drew hg4'); clear hg4'; have hzs := HZ.out z hzm; have hj1 : ¬ 9223372036854775807 < k + z.size := (by omega); have hj2 : ¬ 9223372036854775807 < k + z.size + (s.size - k) := (by omega); clear hzm))
    all_goals
      go_wp2
      go_ret
      exact ⟨⟨_, rfl, by rw [ByteArray.size_append, ByteArray.size_append, ByteArray.size_extract, ByteArray.size_extract]; omega⟩, hc4, hg4⟩
  · by_cases y1 : y = 1
    · subst y1
      go_wp2
      go_ret
      exact ⟨⟨_, rfl, by rw [ByteArray.size_extract]; omega⟩, hc2, hg12⟩
    · have i0 : (y == 0) = false := by rw [beq_eq_false_iff_ne]; exact y0
      have i1 : (y == 1) = false := by rw [beq_eq_false_iff_ne]; exact y1
      go_wp2
      go_ret
      exact ⟨⟨s, rfl, by omega⟩, hc2, hg12⟩

theorem format_len (t : Ty) : (formatB t).size ≤ 240 := by
  unfold formatB
  split
  · rename_i h
    unfold validB at h
    simp only [Bool.and_eq_true, decide_eq_true_eq] at h
    have h1 := txt_len t h.2
    show (txt t).toArray.size ≤ 240
    simp
    omega
  · exact Nat.zero_le _

/-- A text is drawn. -/
def GivesTxt (w : World) (e : Ending) (w' : World) : Prop := (∃ x : ByteArray, e = .returned (.string x) ∧ x.size ≤ 1000) ∧ Below w.heap.size w w'
def signs4 : List ByteArray := [⟨#[60]⟩, ⟨#[93]⟩, ⟨#[123]⟩, ⟨#[58]⟩, ⟨#[97]⟩, ⟨#[73]⟩, ⟨#[44]⟩]
theorem turned4 (p B : Nat) (s : ByteArray) (W : World) (h : CurAt W B p) (hs : s.size ≤ 240) :
    Calls Try.prog 46 #[.pointer (some ⟨p, 0, none⟩), .string s, .slice (some ⟨W.heap.size, 0, none⟩) 7 7] (W.alloc (.cells #[.string ⟨#[60]⟩, .string ⟨#[93]⟩, .string ⟨#[123]⟩, .string ⟨#[58]⟩, .string ⟨#[97]⟩, .string ⟨#[73]⟩, .string ⟨#[44]⟩] 9)) (DrawnTxt (W.alloc (.cells #[.string ⟨#[60]⟩, .string ⟨#[93]⟩, .string ⟨#[123]⟩, .string ⟨#[58]⟩, .string ⟨#[97]⟩, .string ⟨#[73]⟩, .string ⟨#[44]⟩] 9)) B p (s.size + 8)) :=
  turned_any p B (W.heap.size + 1) 7 (some ⟨W.heap.size, 0, none⟩) signs4 s _ (CurAt.belowP h ((Below.refl W.heap.size W).alloc (Nat.le_refl _) _) h.lt) (StrsAt.of_whole (t := 9) (Whole1.new W _ _) _ (by omega)) (fun q b off e => by cases e; have := h.lt; omega) (by decide) (by decide) (by decide) (by omega)

set_option maxHeartbeats 1000000 in
theorem drawParseType_any (A : Option Addr) (n cap : Nat) (w : World) (hA : BytesAt w w.heap.size A n) (hn : n ≤ 2 ^ 47) :
    Calls Try.prog 15 #[.slice A n cap] w (GivesTxt w) := by
  have hc := Lib.hid (l1New_any A n cap w hA hn)
  have hp := Lib.hid (fun p B W h => specBent_any p B W h)
  have hT := Lib.hid (fun p B s W h hs => turned4 p B s W h hs)
  clear hA
  go_enter Try.func15, Try.ntmps15
  go_wp2_with fail
  refine hc.out.mono ?_
  rintro e w1 ⟨p, rfl, hc1, hb1⟩
  go_wp2_with fail
  refine (hp.out p _ w1 hc1).mono ?_
  rintro e w2 ⟨⟨v, t, rfl, hO, hz⟩, hc2, hg2⟩
  have hF := Lib.hid (specFormat_any t v w2 hO.owned.here (by omega))
  have hfl := format_len t
  have hb2 := below_only hb1 hg2 hb1.size hc1.low
  obtain ⟨L, lc, A2, ac, rfl⟩ := hO.open
  clear hO hc1 hb1 hg2
  go_wp2_with fail
  refine hF.out.mono ?_
  rintro e w3 ⟨rfl, hb3⟩
  have hc3 := hc2.belowP hb3 hc2.lt
  have hb23 := hb2.trans (hb3.mono hb2.size)
  generalize formatB t = s at *
  have HTT := Lib.hid (hT.out p _ s w3 hc3 hfl)
  have hba := (Below.refl w3.heap.size w3).alloc (Nat.le_refl _) (.cells #[.string ⟨#[60]⟩, .string ⟨#[93]⟩, .string ⟨#[123]⟩, .string ⟨#[58]⟩, .string ⟨#[97]⟩, .string ⟨#[73]⟩, .string ⟨#[44]⟩] 9)
  have HB := Lib.hid (hb23.trans (hba.mono hb23.size))
  have hcl := hc3.low
  clear hc3 hc2 hb3 hb2 hb23 hba
  go_wp2_with fail
  refine HTT.out.mono ?_
  rintro e w4 ⟨⟨x, rfl, hx⟩, hc4, hg4⟩
  have hb4 := below_only HB.out hg4 HB.out.size (by omega)
  clear hc4 hg4
  go_wp2
  go_ret
  exact ⟨⟨x, rfl, by omega⟩, hb4⟩

end Go.Proofs.Ytmacbkcjeamaeaa
