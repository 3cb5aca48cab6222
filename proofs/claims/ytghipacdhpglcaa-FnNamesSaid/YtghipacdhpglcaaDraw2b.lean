/- The draws of stage 2, second part. -/
import Derived.Test.YtghipacdhpglcaaDraw2
namespace Go.Proofs.Ytghipacdhpglcaa
open Go.RowKit

/-- A string of at most 8 bytes is drawn; what was there stands. -/
def GivesName (w : World) (e : Ending) (w' : World) : Prop := (∃ x : ByteArray, e = .returned (.string x) ∧ x.size ≤ 8) ∧ Below w.heap.size w w'

set_option maxHeartbeats 1000000 in
theorem drawIsName_any (A : Option Addr) (n cap : Nat) (w : World) (hA : BytesAt w w.heap.size A n) (hn : n ≤ 2 ^ 47) :
    Calls Try.prog 19 #[.slice A n cap] w (GivesName w) := by
  have hc := Lib.hid (l1New_any A n cap w hA hn)
  have hp := Lib.hid (fun p B W h => pick_lit names8 (by decide) (by decide) p B W h)
  clear hA
  go_enter Try.func19, Try.ntmps19
  go_wp2_with fail
  refine hc.out.mono ?_
  rintro e w1 ⟨p, rfl, hc1, hb1⟩
  go_wp2_with fail
  refine (hp.out p _ w1 hc1).mono ?_
  rintro e w2 ⟨⟨x, rfl, hx⟩, hc2, ho2⟩
  have hxs := short8 x hx
  clear hx
  go_wp2
  go_ret
  exact ⟨⟨x, rfl, hxs⟩, below_only (hb1.alloc hb1.size _) ho2 (by have := hb1.size; simp; omega) hc1.low⟩

/-- A list of names is drawn; what was there stands. -/
def GivesNames (w : World) (e : Ending) (w' : World) : Prop := (∃ A c ss, e = .returned (.slice A ss.length c) ∧ StrsAt w' w'.heap.size A ss ∧ Short ss ∧ ss.length ≤ 5) ∧ Below w.heap.size w w'
/-- A list of names and a name are drawn; what was there stands. -/
def GivesBoth (w : World) (e : Ending) (w' : World) : Prop := (∃ A c ss s, e = .returned (.tuple #[.slice A ss.length c, .string s]) ∧ StrsAt w' w'.heap.size A ss ∧ Short ss ∧ ss.length ≤ 5 ∧ s.size ≤ 8) ∧ Below w.heap.size w w'

set_option maxHeartbeats 1000000 in
theorem drawAreAscending_any (A : Option Addr) (n cap : Nat) (w : World) (hA : BytesAt w w.heap.size A n) (hn : n ≤ 2 ^ 47) :
    Calls Try.prog 17 #[.slice A n cap] w (GivesNames w) := by
  have hc := Lib.hid (l1New_any A n cap w hA hn)
  clear hA
  go_enter Try.func17, Try.ntmps17
  go_wp2_with fail
  refine hc.out.mono ?_
  rintro e w1 ⟨p, rfl, hc1, hb1⟩
  go_wp2_with fail
  refine (l2List_any p _ w1 hc1).mono ?_
  rintro e w2 ⟨⟨v, ss, rfl, hown, hsh, hl5⟩, hc2, ho2⟩
  obtain ⟨A2, c2, rfl, hA2⟩ := StrsAt.of_own hown
  clear hown
  go_wp2
  go_ret
  exact ⟨⟨A2, c2, ss, rfl, hA2, hsh, hl5⟩, below_only hb1 ho2 hb1.size hc1.low⟩

set_option maxHeartbeats 1000000 in
theorem drawIndexOf_any (A : Option Addr) (n cap : Nat) (w : World) (hA : BytesAt w w.heap.size A n) (hn : n ≤ 2 ^ 47) :
    Calls Try.prog 16 #[.slice A n cap] w (GivesBoth w) := by
  have hc := Lib.hid (l1New_any A n cap w hA hn)
  have hp := Lib.hid (fun p B W h => pick_lit letters3 (by decide) (by decide) p B W h)
  clear hA
  go_enter Try.func16, Try.ntmps16
  go_wp2_with fail
  refine hc.out.mono ?_
  rintro e w1 ⟨p, rfl, hc1, hb1⟩
  have hpl := hc1.lt
  go_wp2_with fail
  refine (l2List_any p _ w1 hc1).mono ?_
  rintro e w2 ⟨⟨v, ss, rfl, hown, hsh, hl5⟩, hc2, ho2⟩
  have hb2 := below_only hb1 ho2 hb1.size hc1.low
  go_wp2_with fail
  refine (hp.out p _ w2 hc2).mono ?_
  rintro e w3 ⟨⟨x, rfl, hx⟩, hc3, ho3⟩
  have hxs := short3 x hx
  have hown3 := (hown.alloc (.cells (strVals letters3).toArray 9)).kept ho3 (.inr (fun e => by have := (hown.lt p e).1; omega))
  have hb3 := below_only (hb2.alloc hb2.size (.cells (strVals letters3).toArray 9)) ho3 (by have := hb2.size; simp; omega) hc1.low
  obtain ⟨A3, c3, rfl, hA3⟩ := StrsAt.of_own hown3
  clear hx hown hown3 ho3
  go_wp2
  go_ret2
  exact ⟨⟨A3, c3, ss, x, rfl, hA3, hsh, hl5, hxs⟩, hb3⟩

set_option maxHeartbeats 1000000 in
theorem drawWithoutName_any (A : Option Addr) (n cap : Nat) (w : World) (hA : BytesAt w w.heap.size A n) (hn : n ≤ 2 ^ 47) :
    Calls Try.prog 18 #[.slice A n cap] w (GivesBoth w) := by
  have hc := Lib.hid (drawIndexOf_any A n cap w hA hn)
  clear hA
  go_enter Try.func18, Try.ntmps18
  go_wp2_with fail
  refine hc.out.mono ?_
  rintro e w1 ⟨⟨A3, c3, ss, x, rfl, hA3, hsh, hl5, hxs⟩, hb3⟩
  go_wp2
  go_ret2
  exact ⟨⟨A3, c3, ss, x, rfl, hA3, hsh, hl5, hxs⟩, hb3⟩

/-- A list of names and a name are drawn; what was there stands. -/
def GivesBothC (w : World) (e : Ending) (w' : World) : Prop := (∃ g c ss s, e = .returned (.tuple #[.slice (some ⟨g, 0, none⟩) ss.length c, .string s]) ∧ ss.length ≤ c ∧ StrsAt w' w'.heap.size (some ⟨g, 0, none⟩) ss ∧ Short ss ∧ ss.length ≤ 5 ∧ s.size ≤ 8) ∧ Below w.heap.size w w'

theorem own_some {w : World} {base n : Nat} {v : Value} {ss : List ByteArray} (h : w.ownsRow base 9 1 v n (strVals ss)) (h0 : ss ≠ []) : ∃ g cap, v = .slice (some ⟨g, 0, none⟩) ss.length cap ∧ ss.length ≤ cap ∧ base ≤ g ∧ RowStrs w g ss := by
  have hl : ss.length = n := by simpa [strVals] using h.1
  rcases RowStrs.of_own h with ⟨_, h2⟩ | ⟨g, cap, h1, h2, h3⟩
  · exact absurd h2 h0
  · refine ⟨g, cap, h1, ?_, h2, h3⟩
    rcases h.2 with ⟨h4, _⟩ | ⟨g', cap', cur, h4, _, _, h5, _⟩
    · rw [h1] at h4; cases h4
    · rw [h1] at h4
      injection h4 with _ _ e
      omega

set_option maxHeartbeats 1000000 in
theorem drawInsertName_any (A : Option Addr) (n cap : Nat) (w : World) (hA : BytesAt w w.heap.size A n) (hn : n ≤ 2 ^ 47) :
    Calls Try.prog 14 #[.slice A n cap] w (GivesBothC w) := by
  have hc := Lib.hid (l1New_any A n cap w hA hn)
  have hd := Lib.hid (fun p B W h => l1Below_any p B 4 W h (by omega) (by omega))
  have hp := Lib.hid (fun p B W h => pick_lit letters4 (by decide) (by decide) p B W h)
  have hq := Lib.hid (fun p B W h => pick_lit letters4b (by decide) (by decide) p B W h)
  have hins := Lib.hid (fun g c ss s W h h1 h2 => specInsertName_cons g 0 c ss s W h h1 h2)
  clear hA
  go_enter Try.func14, Try.ntmps14
  go_wp2_with fail
  refine hc.out.mono ?_
  rintro e w1 ⟨p, rfl, hc1, hb1⟩
  have hpl := hc1.lt
  have hlow := hc1.low
  go_wp2_with fail
  refine (hd.out p _ (w1.alloc (.cells #[] 9)) (CurAt.alloc2 hc1 _)).mono ?_
  rintro e w2 ⟨⟨m, rfl, hm0, hm1⟩, hc2, ho2⟩
  have hb2 := below_only (hb1.alloc hb1.size (.cells #[] 9)) ho2 (by have := hb1.size; simp; omega) hlow
  have hsz2 : w1.heap.size < w2.heap.size := by have := ho2.size; simp at this; omega
  clear hc1 ho2
  go_wp2
  go_loopw [5, 7] (fun v i wr => ∃ (k g c : Nat) (ss : List ByteArray), (k : Int) ≤ m ∧ i = .int .i64 k ∧ v = .slice (some ⟨g, 0, none⟩) ss.length c ∧ ss.length ≤ c ∧ ss.length ≤ k ∧ StrsAt wr wr.heap.size (some ⟨g, 0, none⟩) ss ∧ Short ss ∧ p < g ∧ CurAt wr w.heap.size p ∧ Below w.heap.size w wr) (fun _ i _ => m.toNat - (intOf i).toNat)
  case atStart => exact ⟨0, w1.heap.size, 0, [], by omega, rfl, rfl, Nat.le_refl _, Nat.le_refl _, StrsAt.empty _ _ _, (fun x hx => by cases hx), hpl, hc2, hb2⟩
  case round =>
    obtain ⟨k, g, c, ss, hk, rfl, rfl, hlc, hlk, hss, hsh, hpg, hc, hb⟩ := hrel
    clear hc2 hb2
    have hbs := hb.size
    have hcl := hc.lt
    by_cases hlt : (k : Int) < m
    · go_wp2_with fail
      refine (hp.out p _ wr hc).mono ?_
      rintro e w3 ⟨⟨x, rfl, hx⟩, hc3, ho3⟩
      have hxs := short4 x hx
      have hb3 := below_only (hb.alloc hbs (.cells (strVals letters4).toArray 9)) ho3 (by simp; omega) hlow
      have hss3 : StrsAt w3 w3.heap.size (some ⟨g, 0, none⟩) ss := by
        intro i hi
        obtain ⟨b, off, e, hbl, hcell⟩ := hss i hi
        cases e
        refine ⟨g, 0, rfl, by have := ho3.size; simp at this; omega, ?_⟩
        rw [World.cell?_of_block (w := wr.alloc (.cells (strVals letters4).toArray 9)) (ho3.block g (by simp; omega) (fun e => by injection e with e; omega))]
        rw [((Below.refl wr.heap.size wr).alloc (Nat.le_refl _) (.cells (strVals letters4).toArray 9)).cell (p := ⟨g, 0 + i, none⟩) hbl]
        exact hcell
      have hlen : ss.length ≤ 1048576 := by omega
      clear hx hss hc ho3
      go_wp2_with fail
      refine (hins.out g c ss x w3 hss3 hlen hlc).mono ?_
      rintro e w4 ⟨v4, rfl, hown4, hb4⟩
      obtain ⟨g4, c4, rfl, hlc4, hg4, hr4⟩ := own_some hown4 (List.ne_nil_of_mem (mem_insert ss x))
      have hc4 := hc3.below hb4
      have hil := insertB_len ss x
      have hp4 : p < g4 := by have := hc3.lt; omega
      have hs4 := hr4.at _ hr4.lt
      have hb4' := hb3.trans (hb4.mono hb3.size)
      clear hown4 hr4 hss3 hc3
      go_wp2
      go_roundw
      case rel => exact ⟨k + 1, g4, c4, _, by omega, by go_num, rfl, hlc4, by omega, hs4, hsh.insert x hxs, hp4, hc4, hb4'⟩
      case measure => simp [intOf]; omega
    · have hl5 : ss.length ≤ 5 := by omega
      go_wp2_with fail
      refine (hq.out p _ wr hc).mono ?_
      rintro e w3 ⟨⟨x, rfl, hx⟩, hc3, ho3⟩
      have hxs := short4b x hx
      have hb3 := below_only (hb.alloc hbs (.cells (strVals letters4b).toArray 9)) ho3 (by simp; omega) hlow
      have hss3 : StrsAt w3 w3.heap.size (some ⟨g, 0, none⟩) ss := by
        intro i hi
        obtain ⟨b, off, e, hbl, hcell⟩ := hss i hi
        cases e
        refine ⟨g, 0, rfl, by have := ho3.size; simp at this; omega, ?_⟩
        rw [World.cell?_of_block (w := wr.alloc (.cells (strVals letters4b).toArray 9)) (ho3.block g (by simp; omega) (fun e => by injection e with e; omega))]
        rw [((Below.refl wr.heap.size wr).alloc (Nat.le_refl _) (.cells (strVals letters4b).toArray 9)).cell (p := ⟨g, 0 + i, none⟩) hbl]
        exact hcell
      clear hx hss hc ho3
      go_wp2
      go_ret2
      exact ⟨⟨_, _, ss, x, rfl, hlc, hss3, hsh, hl5, hxs⟩, hb3⟩

end Go.Proofs.Ytghipacdhpglcaa
