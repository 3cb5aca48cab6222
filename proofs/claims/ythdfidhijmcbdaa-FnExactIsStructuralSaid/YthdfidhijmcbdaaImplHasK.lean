/- impl.hasAnyKind, impl.IsStructural, impl.IsPlain. -/
import Derived.Test.YthdfidhijmcbdaaOType
import Derived.Test.YthdfidhijmcbdaaSpecHasK
import Derived.Test.YthdfidhijmcbdaaImplOForm
namespace Go.Proofs.Ythdfidhijmcbdaa
set_option maxRecDepth 100000
open Go.RowKit
attribute [local go_sem ↓] Go.wp_at_zero Go.wp_at_succ

/-- A row of the kinds from lo on. -/
def KindsRow (w : World) (g : Nat) (lo : Int) (n : Nat) : Prop := g < w.heap.size ∧ ∀ i, i < n → w.cell? ⟨g, i, none⟩ = some (.int .i64 (lo + i))
theorem KindsRow.below {w w' : World} {g : Nat} {lo : Int} {n : Nat} (h : KindsRow w g lo n) (hb : Below w.heap.size w w') : KindsRow w' g lo n := ⟨Nat.lt_of_lt_of_le h.1 hb.size, fun i hi => (hb.cell (p := ⟨g, i, none⟩) h.1).trans (h.2 i hi)⟩

theorem kindsIndex_any (k lo : Int) (n g : Nat) (w : World) (hn : n ≤ 3) (hlo : 0 ≤ lo ∧ lo ≤ 100) (hK : KindsRow w g lo n) :
    Calls Try.prog 34 #[.slice (some ⟨g, 0, none⟩) n n, .int .i64 k] w (fun e w' => ∃ i : Int, e = .returned (.int .i64 i) ∧ (inB lo (lo + n - 1) k = true → 0 ≤ i) ∧ (inB lo (lo + n - 1) k = false → i = -1) ∧ i ≤ 9223372036854775807 ∧ Below w.heap.size w w') := by
  obtain ⟨hl1, hl2⟩ := hlo
  go_enter Try.func34, Try.ntmps34
  go_wp2
  go_loopw [8] (fun i wr => ∃ j : Nat, j ≤ n ∧ i = .int .i64 j ∧ (∀ m : Nat, m < j → k ≠ lo + m) ∧ Below w.heap.size w wr) (fun i _ => n - (intOf i).toNat)
  case atStart => exact ⟨0, Nat.zero_le _, rfl, fun m h => absurd h (by omega), Below.refl _ _⟩
  case round =>
    obtain ⟨j, hj, rfl, hall, hb⟩ := hrel
    have HA := Lib.hid hall
    clear hall
    by_cases hlt : j < n
    · have c0 : wr.cell? ⟨g, 0 + j * 1, none⟩ = some (.int .i64 (lo + j)) := by rw [Nat.zero_add, Nat.mul_one]; exact (hK.below hb).2 j hlt
      have c1 : wr.cell? ⟨g, j, none⟩ = some (.int .i64 (lo + j)) := (hK.below hb).2 j hlt
      by_cases he : k = lo + j
      · have hr := Lib.hid (inB_yes (lo := lo) (hi := lo + n - 1) (k := k) (by omega))
        have ie : (k == lo + (j : Int)) = true := by simpa using he
        clear he
        go_wp2
        go_ret
        exact ⟨_, rfl, fun _ => by omega, fun h => (by rw [hr.out] at h; cases h), by omega, hb⟩
      · have HE := Lib.hid he
        have ie : (k == lo + (j : Int)) = false := by simpa using he
        clear he
        go_wp2
        go_roundw
        case rel =>
          refine ⟨j + 1, by omega, by go_num, fun m h => ?_, hb⟩
          by_cases e : m = j
          · subst e
            exact HE.out
          · exact HA.out m (by omega)
        case measure => simp [intOf]; omega
    · have hr := Lib.hid (inB_no (lo := lo) (hi := lo + n - 1) (k := k) (by
        rintro ⟨h1, h2⟩
        exact HA.out (k - lo).toNat (by omega) (by omega)))
      go_wp2
      go_ret
      exact ⟨_, rfl, fun h => (by rw [hr.out] at h; cases h), fun _ => rfl, by omega, hb⟩

theorem kindsContains_any (k lo : Int) (n g : Nat) (w : World) (hn : n ≤ 3) (hlo : 0 ≤ lo ∧ lo ≤ 100) (hK : KindsRow w g lo n) :
    Calls Try.prog 26 #[.slice (some ⟨g, 0, none⟩) n n, .int .i64 k] w (BoolIs (inB lo (lo + n - 1) k) w) := by
  have HX := Lib.hid (kindsIndex_any k lo n g w hn hlo hK)
  clear hn hlo hK
  generalize inB lo (lo + n - 1) k = b at *
  go_enter Try.func26, Try.ntmps26
  go_wp2_with fail
  refine HX.out.mono ?_
  rintro e w1 ⟨i, rfl, h1, h2, _, hb1⟩
  cases b
  · have := h2 rfl
    subst this
    clear h1 h2
    go_wp2
    go_ret
    exact ⟨rfl, hb1⟩
  · have i0 : i ≥ 0 := h1 rfl
    clear h1 h2
    go_wp2
    go_ret
    exact ⟨rfl, hb1⟩

/-- What is proved of each part. -/
def AnyOne (t : Ot) : Prop := ∀ (v : Value) (w : World) (lo : Int) (n g : Nat), OtAt w w.heap.size v t → szOt t ≤ 1048576 → n ≤ 3 → 0 ≤ lo ∧ lo ≤ 100 → KindsRow w g lo n →
  Calls Try.prog 17 #[v, .slice (some ⟨g, 0, none⟩) n n] w (BoolIs (hasK lo (lo + n - 1) t) w)

theorem anyOther_any (t : Ot) (V : Value) (lo : Int) (n g fb : Nat) (w : World) (hone : AnyOne t) (hv : OtAt w w.heap.size V t) (hfb : Whole1 w fb 42 #[.slice (some ⟨g, 0, none⟩) n n]) (hsz : szOt t ≤ 1048576) (hn : n ≤ 3) (hlo : 0 ≤ lo ∧ lo ≤ 100) (hK : KindsRow w g lo n) :
    Calls Try.prog 25 #[V, .pointer (some ⟨fb, 0, none⟩)] w (BoolIs (hasK lo (lo + n - 1) t) w) := by
  obtain ⟨A, ac, rfl, _⟩ := hv.open
  obtain ⟨hb0, p0, hs0⟩ := boxes1 w 29 #[.int .i64 t.kind, .string t.name, .int .i64 t.num, .slice A t.args.length ac]
  have HT := Lib.hid (hone _ _ lo n g (hv.up hb0) hsz hn hlo (hK.below hb0))
  have g1 := hfb.below hb0 hfb.lt
  have c0 : (w.alloc (.cells #[.int .i64 t.kind, .string t.name, .int .i64 t.num, .slice A t.args.length ac] 29)).cell? ⟨fb, 0, none⟩ = some (.slice (some ⟨g, 0, none⟩) n n) := g1.cell 0
  generalize hasK lo (lo + n - 1) t = b at *
  clear hv hs0 hfb g1 hone hn hlo hK
  go_enter Try.func25, Try.ntmps25
  go_wp2_with fail
  refine HT.out.mono ?_
  rintro e w1 ⟨rfl, hb1⟩
  go_wp2
  go_ret
  exact ⟨rfl, hb0.trans (hb1.mono hb0.size)⟩

set_option maxHeartbeats 4000000 in
theorem anyIndex_any (ts : List Ot) (A : Option Addr) (c0 : Nat) (lo : Int) (n g fb : Nat) (w : World) (hall : ∀ i, (h : i < ts.length) → AnyOne ts[i]) (ha : OtsAt w w.heap.size A ts) (hfb : Whole1 w fb 42 #[.slice (some ⟨g, 0, none⟩) n n]) (hsz : szOts ts ≤ 1048576) (hn : n ≤ 3) (hlo : 0 ≤ lo ∧ lo ≤ 100) (hK : KindsRow w g lo n) :
    Calls Try.prog 35 #[.slice A ts.length c0, .func (.func 25) #[] #[.pointer (some ⟨fb, 0, none⟩)]] w (fun e w' => ∃ i : Int, e = .returned (.int .i64 i) ∧ (hasKs lo (lo + n - 1) ts = true → 0 ≤ i) ∧ (hasKs lo (lo + n - 1) ts = false → i = -1) ∧ i ≤ 9223372036854775807 ∧ Below w.heap.size w w') := by
  have hm := ha.1
  unfold maxLen at hm
  have HC := Lib.hid (fun k (hk : k < ts.length) V W (h : OtAt W W.heap.size V ts[k]) (h2 : Below w.heap.size w W) => anyOther_any ts[k] V lo n g fb W (hall k hk) h (hfb.below h2 hfb.lt) (by have := szOt_part ts k hk; omega) hn hlo (hK.below h2))
  obtain ⟨hi, hhi⟩ : ∃ hi, lo + n - 1 = hi := ⟨_, rfl⟩
  rw [hhi] at HC ⊢
  clear hall hfb hn hlo hK hhi
  go_enter Try.func35, Try.ntmps35
  go_wp2
  go_loopw [8] (fun i wr => ∃ k : Nat, k ≤ ts.length ∧ i = .int .i64 k ∧ (∀ j, (h1 : j < ts.length) → j < k → hasK lo hi ts[j] = false) ∧ Below w.heap.size w wr) (fun i _ => ts.length - (intOf i).toNat)
  case atStart => exact ⟨0, Nat.zero_le _, rfl, fun j _ h => absurd h (by omega), Below.refl _ _⟩
  case round =>
    obtain ⟨k, hk, rfl, hall, hb⟩ := hrel
    have HA := Lib.hid hall
    clear hall
    by_cases hlt : k < ts.length
    · have hltI : (k : Int) < (ts.length : Int) := by omega
      obtain ⟨b, off, A1, ac1, rfl, hbl, q0, q1, q2, q3, ht⟩ := (ha.below hb).elem k hlt
      have HT := HC.out k hlt _ wr (ht.more hb.size) hb
      clear ht
      cases hfk : hasK lo hi ts[k]
      · rw [hfk] at HT
        have HT' := Lib.hid HT
        have HK := Lib.hid hfk
        clear HT hfk
        go_wp2_with fail
        refine HT'.out.mono ?_
        rintro e w1 ⟨rfl, hb1⟩
        go_wp2
        go_roundw
        case rel =>
          refine ⟨k + 1, by omega, by go_num, fun j hj h => ?_, hb.trans (hb1.mono hb.size)⟩
          by_cases e : j = k
          · subst e
            exact HK.out
          · exact HA.out j hj (by omega)
        case measure => simp [intOf]; omega
      · rw [hfk] at HT
        have HT' := Lib.hid HT
        have hr := Lib.hid (hasKs_some lo hi ts k hlt hfk)
        clear HT hfk
        go_wp2_with fail
        refine HT'.out.mono ?_
        rintro e w1 ⟨rfl, hb1⟩
        go_wp2
        go_ret
        exact ⟨_, rfl, fun _ => by omega, fun h => (by rw [hr.out] at h; cases h), by omega, hb.trans (hb1.mono hb.size)⟩
    · have hr := Lib.hid (hasKs_none lo hi ts fun i h1 => HA.out i h1 (by omega))
      go_wp2
      go_ret
      exact ⟨_, rfl, fun h => (by rw [hr.out] at h; cases h), fun _ => rfl, by omega, hb⟩

theorem anyContains_any (ts : List Ot) (A : Option Addr) (c0 : Nat) (lo : Int) (n g fb : Nat) (w : World) (hall : ∀ i, (h : i < ts.length) → AnyOne ts[i]) (ha : OtsAt w w.heap.size A ts) (hfb : Whole1 w fb 42 #[.slice (some ⟨g, 0, none⟩) n n]) (hsz : szOts ts ≤ 1048576) (hn : n ≤ 3) (hlo : 0 ≤ lo ∧ lo ≤ 100) (hK : KindsRow w g lo n) :
    Calls Try.prog 27 #[.slice A ts.length c0, .func (.func 25) #[] #[.pointer (some ⟨fb, 0, none⟩)]] w (BoolIs (hasKs lo (lo + n - 1) ts) w) := by
  have HX := Lib.hid (anyIndex_any ts A c0 lo n g fb w hall ha hfb hsz hn hlo hK)
  clear hall ha hfb hsz hn hlo hK
  generalize hasKs lo (lo + n - 1) ts = b at *
  go_enter Try.func27, Try.ntmps27
  go_wp2_with fail
  refine HX.out.mono ?_
  rintro e w1 ⟨i, rfl, h1, h2, _, hb1⟩
  cases b
  · have := h2 rfl
    subst this
    clear h1 h2
    go_wp2
    go_ret
    exact ⟨rfl, hb1⟩
  · have i0 : i ≥ 0 := h1 rfl
    clear h1 h2
    go_wp2
    go_ret
    exact ⟨rfl, hb1⟩

set_option maxHeartbeats 4000000 in
theorem hasAny_of (k0 n0 : Int) (nm : ByteArray) (ts : List Ot) (hall : ∀ i, (h : i < ts.length) → AnyOne ts[i]) : AnyOne (.mk k0 n0 nm ts) := by
  intro v w lo n g hv hsz hn hlo hK
  have hse := szOt_eq (.mk k0 n0 nm ts)
  have hfe : hasK lo (lo + n - 1) (.mk k0 n0 nm ts) = (hasKs lo (lo + n - 1) ts || inB lo (lo + n - 1) k0) := by rw [hasK]
  obtain ⟨A, ac, rfl, hnm, ha⟩ := hv.open
  simp only [Ot.kind, Ot.num, Ot.name, Ot.args] at *
  have hsz2 : szOts ts ≤ 1048576 := by omega
  rw [hfe]
  obtain ⟨hb0, p0, q0, hs0⟩ := boxes2 w 29 42 #[.int .i64 k0, .string nm, .int .i64 n0, .slice A ts.length ac] #[.slice (some ⟨g, 0, none⟩) n n]
  have ha0 := ha.up hb0
  have HC := Lib.hid (fun W (hb : Below w.heap.size w W) => kindsContains_any k0 lo n g W hn hlo (hK.below hb))
  have HF := Lib.hid (fun W (hb : Below ((w.alloc (.cells #[.int .i64 k0, .string nm, .int .i64 n0, .slice A ts.length ac] 29)).alloc (.cells #[.slice (some ⟨g, 0, none⟩) n n] 42)).heap.size ((w.alloc (.cells #[.int .i64 k0, .string nm, .int .i64 n0, .slice A ts.length ac] 29)).alloc (.cells #[.slice (some ⟨g, 0, none⟩) n n] 42)) W) => anyContains_any ts A ac lo n g (w.heap.size + 1) W hall (ha0.up hb) (q0.below hb q0.lt) hsz2 hn hlo (hK.below (hb0.trans (hb.mono hb0.size))))
  clear hall ha ha0 hv hse hfe hnm hsz hsz2 hn hlo hK hs0
  generalize hasKs lo (lo + n - 1) ts = x at *
  generalize inB lo (lo + n - 1) k0 = y at *
  go_enter Try.func17, Try.ntmps17
  go_wp2_with fail
  generalize (w.alloc (.cells #[.int .i64 k0, .string nm, .int .i64 n0, .slice A ts.length ac] 29)).alloc (.cells #[.slice (some ⟨g, 0, none⟩) n n] 42) = w0 at *
  refine (HC.out w0 hb0).mono ?_
  rintro e w1 ⟨rfl, hb1⟩
  have p1 := p0.below hb1 p0.lt
  have q1 := q0.below hb1 q0.lt
  have c3 : w1.cell? ⟨w.heap.size, 3, none⟩ = some (.slice A ts.length ac) := p1.cell 3
  have hb1' := hb0.trans (hb1.mono hb0.size)
  cases y
  · go_wp2_with fail
    refine (HF.out w1 hb1).mono ?_
    rintro e w2 ⟨rfl, hb2⟩
    cases x
    · go_wp2
      go_ret
      exact ⟨rfl, hb1'.trans (hb2.mono hb1'.size)⟩
    · go_wp2
      go_ret
      exact ⟨rfl, hb1'.trans (hb2.mono hb1'.size)⟩
  · go_wp2
    go_ret
    exact ⟨by rw [Bool.or_true]; rfl, hb1'⟩

theorem hasAny_any (t : Ot) : AnyOne t := by
  induction t using Ot.ind with
  | h k n nm ts ih => exact hasAny_of k n nm ts ih


set_option maxHeartbeats 4000000 in
theorem implIsStructural_any (t : Ot) (v : Value) (w : World) (hv : OwnO w v t) (hsz : szOt t ≤ 1048576) : Calls Try.prog 8 #[v] w (BoolIs (structuralB t) w) := by
  have HI := Lib.hid (fun V W h => implIsOptic_any t V W h (by have := size_le_szO t; omega))
  have HA := Lib.hid (fun V W g h hK => hasAny_any t V W 9 3 g h hsz (by omega) (by omega) hK)
  have hval : structuralB t = (opticB t && !hasK 9 (9 + (3 : Nat) - 1) t) := rfl
  rw [hval]
  generalize hasK 9 (9 + (3 : Nat) - 1) t = y at *
  generalize opticB t = x at *
  obtain ⟨A, ac, rfl, _⟩ := hv.open
  obtain ⟨hb0, p0, hs0⟩ := boxes1 w 29 #[.int .i64 t.kind, .string t.name, .int .i64 t.num, .slice A t.args.length ac]
  have hv0 := hv.up hb0
  have hpl := p0.lt
  clear hv hs0 hval hsz
  go_enter Try.func8, Try.ntmps8
  go_wp2_with fail
  generalize w.alloc (.cells #[.int .i64 t.kind, .string t.name, .int .i64 t.num, .slice A t.args.length ac] 29) = w0 at *
  refine (HI.out _ w0 hv0).mono ?_
  rintro e w1 ⟨rfl, hb1⟩
  have p1 := p0.below hb1 hpl
  have hv1 := hv0.up hb1
  have hb1' := hb0.trans (hb1.mono hb0.size)
  have c0 : w1.cell? ⟨w.heap.size, 0, none⟩ = some (.int .i64 t.kind) := p1.cell 0
  have c1 : w1.cell? ⟨w.heap.size, 1, none⟩ = some (.string t.name) := p1.cell 1
  have c2 : w1.cell? ⟨w.heap.size, 2, none⟩ = some (.int .i64 t.num) := p1.cell 2
  have c3 : w1.cell? ⟨w.heap.size, 3, none⟩ = some (.slice A t.args.length ac) := p1.cell 3
  cases x
  · rw [Bool.false_and]
    go_wp2
    go_ret
    exact ⟨rfl, hb1'⟩
  · obtain ⟨hb2, k2, hs2⟩ := boxes1 w1 3 #[.int .i64 9, .int .i64 10, .int .i64 11]
    have hv2 := (hv1.up hb2).here
    have hK2 : KindsRow (w1.alloc (.cells #[.int .i64 9, .int .i64 10, .int .i64 11] 3)) w1.heap.size 9 3 := ⟨k2.lt, fun i hi => by
      rw [k2.cell]
      match i, hi with
      | 0, _ => rfl
      | 1, _ => rfl
      | 2, _ => rfl⟩
    have hb2' := hb1'.trans (hb2.mono hb1'.size)
    clear hs2 hv1 hv0 p1 p0 k2
    go_wp2_with fail
    refine (HA.out _ _ _ hv2 hK2).mono ?_
    rintro e w3 ⟨rfl, hb3⟩
    cases y
    · go_wp2
      go_ret
      exact ⟨rfl, hb2'.trans (hb3.mono hb2'.size)⟩
    · go_wp2
      go_ret
      exact ⟨rfl, hb2'.trans (hb3.mono hb2'.size)⟩

set_option maxHeartbeats 4000000 in
theorem implIsPlain_any (t : Ot) (v : Value) (w : World) (hv : OwnO w v t) (hsz : szOt t ≤ 1048576) : Calls Try.prog 11 #[v] w (BoolIs (plainB t) w) := by
  have HI := Lib.hid (fun V W h => implIsStructural_any t V W h hsz)
  have HA := Lib.hid (fun V W g h hK => hasAny_any t V W 7 2 g h hsz (by omega) (by omega) hK)
  have hval : plainB t = (structuralB t && !hasK 7 (7 + (2 : Nat) - 1) t) := rfl
  rw [hval]
  generalize hasK 7 (7 + (2 : Nat) - 1) t = y at *
  generalize structuralB t = x at *
  obtain ⟨A, ac, rfl, _⟩ := hv.open
  obtain ⟨hb0, p0, hs0⟩ := boxes1 w 29 #[.int .i64 t.kind, .string t.name, .int .i64 t.num, .slice A t.args.length ac]
  have hv0 := hv.up hb0
  have hpl := p0.lt
  clear hv hs0 hval hsz
  go_enter Try.func11, Try.ntmps11
  go_wp2_with fail
  generalize w.alloc (.cells #[.int .i64 t.kind, .string t.name, .int .i64 t.num, .slice A t.args.length ac] 29) = w0 at *
  refine (HI.out _ w0 hv0).mono ?_
  rintro e w1 ⟨rfl, hb1⟩
  have p1 := p0.below hb1 hpl
  have hv1 := hv0.up hb1
  have hb1' := hb0.trans (hb1.mono hb0.size)
  have c0 : w1.cell? ⟨w.heap.size, 0, none⟩ = some (.int .i64 t.kind) := p1.cell 0
  have c1 : w1.cell? ⟨w.heap.size, 1, none⟩ = some (.string t.name) := p1.cell 1
  have c2 : w1.cell? ⟨w.heap.size, 2, none⟩ = some (.int .i64 t.num) := p1.cell 2
  have c3 : w1.cell? ⟨w.heap.size, 3, none⟩ = some (.slice A t.args.length ac) := p1.cell 3
  cases x
  · rw [Bool.false_and]
    go_wp2
    go_ret
    exact ⟨rfl, hb1'⟩
  · obtain ⟨hb2, k2, hs2⟩ := boxes1 w1 3 #[.int .i64 7, .int .i64 8]
    have hv2 := (hv1.up hb2).here
    have hK2 : KindsRow (w1.alloc (.cells #[.int .i64 7, .int .i64 8] 3)) w1.heap.size 7 2 := ⟨k2.lt, fun i hi => by
      rw [k2.cell]
      match i, hi with
      | 0, _ => rfl
      | 1, _ => rfl⟩
    have hb2' := hb1'.trans (hb2.mono hb1'.size)
    clear hs2 hv1 hv0 p1 p0 k2
    go_wp2_with fail
    refine (HA.out _ _ _ hv2 hK2).mono ?_
    rintro e w3 ⟨rfl, hb3⟩
    cases y
    · go_wp2
      go_ret
      exact ⟨rfl, hb2'.trans (hb3.mono hb2'.size)⟩
    · go_wp2
      go_ret
      exact ⟨rfl, hb2'.trans (hb3.mono hb2'.size)⟩

end Go.Proofs.Ythdfidhijmcbdaa
