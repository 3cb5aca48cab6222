/- laws.toOptic makes a new tree of optics. -/
import Derived.Test.YthdfidhijmcbdaaGreatDoorProg
import Derived.Test.YthdfidhijmcbdaaGreatDoorOtIn
import Derived.Test.YthdfidhijmcbdaaGreatDoorGather
import Derived.Outline
namespace Go.Proofs.YthdfidhijmcbdaaGreatDoor
open Go.RowKit

/-- A new tree is handed back. -/
def NewOt (w : World) (t : Ot) (e : Ending) (w' : World) : Prop := ∃ v, e = .returned v ∧ OtIn w' (Span w.heap.size w'.heap.size) v t ∧ Below w.heap.size w w'
/-- A new list of trees is handed back. -/
def NewOts (w : World) (ts : List Ot) (e : Ending) (w' : World) : Prop := ∃ g c, e = .returned (.slice (some ⟨g, 0, none⟩) ts.length c) ∧ w.heap.size ≤ g ∧ OtsIn w' (Span w.heap.size w'.heap.size) (some ⟨g, 0, none⟩) ts ∧ Below w.heap.size w w'

def ToOOne (t : Ot) : Prop := ∀ (v : Value) (w : World), OtAt w w.heap.size v t → szOt t ≤ 1048576 → Calls Tryz.prog 21 #[v] w (NewOt w t)
def ToOMany (ts : List Ot) : Prop := ∀ (A : Option Addr) (c : Nat) (w : World), OtsAt w w.heap.size A ts → szOts ts ≤ 1048576 → Calls Tryz.prog 50 #[.slice A ts.length c] w (NewOts w ts)

set_option maxHeartbeats 1000000 in
theorem toOptic_of (k n : Int) (nm : ByteArray) (ts : List Ot) (h : ToOMany ts) : ToOOne (.mk k n nm ts) := by
  intro v w hv hsz
  obtain ⟨A, ac, rfl, hnm, ha⟩ := hv.open
  rw [szOt_eq] at hsz
  simp only [Ot.kind, Ot.num, Ot.name, Ot.args] at *
  have HT := Lib.hid (fun W hw => h A ac W hw (by omega))
  go_enter Tryz.func21, Tryz.ntmps21
  go_wp2_with fail
  obtain ⟨hb0, q0, r0, o0, hsz0⟩ := boxes3 w 44 30 30 #[.int .i64 k, .string nm, .int .i64 n, .slice A ts.length ac] #[.int .i64 0, .string ⟨#[]⟩, .int .i64 0, .slice none 0 0] #[.int .i64 k, .string nm, .int .i64 n, .slice none 0 0]
  generalize ((w.alloc (.cells #[.int .i64 k, .string nm, .int .i64 n, .slice A ts.length ac] 44)).alloc (.cells #[.int .i64 0, .string ⟨#[]⟩, .int .i64 0, .slice none 0 0] 30)).alloc (.cells #[.int .i64 k, .string nm, .int .i64 n, .slice none 0 0] 30) = w2 at *
  have HZ := Lib.hid hsz0
  refine (HT.out w2 (ha.up hb0)).mono ?_
  rintro e w3 ⟨g3, c3, rfl, hg3, ht3, hb3⟩
  have hw3 := o0.below hb3 o0.lt
  have hr3 := r0.below hb3 r0.lt
  have hb3' := hb0.trans (hb3.mono hb0.size)
  have hs3 := hb3.size
  have hg1 : w.heap.size + 3 ≤ w2.heap.size := by have := HZ.out; omega
  clear hsz0
  have c4 : w3.cell? ⟨w.heap.size + 1 + 1, 3, none⟩ = some (.slice none 0 0) := hw3.cell 3
  have c5 : w3.frozen? ⟨w.heap.size + 1 + 1, 3, none⟩ = false := hw3.free 3
  have c6 : w3.cell? ⟨w.heap.size + 1 + 1, 0, none⟩ = some (.int .i64 k) := hw3.cell 0
  have c61 : w3.cell? ⟨w.heap.size + 1 + 1, 1, none⟩ = some (.string nm) := hw3.cell 1
  have c62 : w3.cell? ⟨w.heap.size + 1 + 1, 2, none⟩ = some (.int .i64 n) := hw3.cell 2
  have d0 : w3.cell? ⟨w.heap.size + 1, 0, none⟩ = some (.int .i64 0) := hr3.cell 0
  have d1 : w3.cell? ⟨w.heap.size + 1, 1, none⟩ = some (.string ⟨#[]⟩) := hr3.cell 1
  have d2 : w3.cell? ⟨w.heap.size + 1, 2, none⟩ = some (.int .i64 0) := hr3.cell 2
  have d3 : w3.cell? ⟨w.heap.size + 1, 3, none⟩ = some (.slice none 0 0) := hr3.cell 3
  have f0 : w3.frozen? ⟨w.heap.size + 1, 0, none⟩ = false := hr3.free 0
  have f1 : w3.frozen? ⟨w.heap.size + 1, 1, none⟩ = false := hr3.free 1
  have f2 : w3.frozen? ⟨w.heap.size + 1, 2, none⟩ = false := hr3.free 2
  have f3 : w3.frozen? ⟨w.heap.size + 1, 3, none⟩ = false := hr3.free 3
  clear o0 r0 q0 hw3 hr3
  go_wp2
  refine bodyPost_ret (v := .agg #[.int .i64 k, .string nm, .int .i64 n, .slice (some ⟨g3, 0, none⟩) ts.length c3]) (by simp [results, Tryz.results21, go_sem, d0, d1, d2, d3]) rfl ⟨_, rfl, ?_, ?_⟩
  · have hk : ∀ b, w.heap.size + 3 ≤ b → (((((w3.setCell ⟨w.heap.size + 1 + 1, 3, none⟩ (.slice (some ⟨g3, 0, none⟩) ts.length c3)).setCell ⟨w.heap.size + 1, 0, none⟩ (.int .i64 k)).setCell ⟨w.heap.size + 1, 1, none⟩ (.string nm)).setCell ⟨w.heap.size + 1, 2, none⟩ (.int .i64 n)).setCell ⟨w.heap.size + 1, 3, none⟩ (.slice (some ⟨g3, 0, none⟩) ts.length c3)).heap[b]? = w3.heap[b]? := fun b h => by
      rw [Below.heap_setCell _ _ _ _ (by simp; omega), Below.heap_setCell _ _ _ _ (by simp; omega), Below.heap_setCell _ _ _ _ (by simp; omega), Below.heap_setCell _ _ _ _ (by simp; omega), Below.heap_setCell _ _ _ _ (by simp; omega)]
    have hS : (((((w3.setCell ⟨w.heap.size + 1 + 1, 3, none⟩ (.slice (some ⟨g3, 0, none⟩) ts.length c3)).setCell ⟨w.heap.size + 1, 0, none⟩ (.int .i64 k)).setCell ⟨w.heap.size + 1, 1, none⟩ (.string nm)).setCell ⟨w.heap.size + 1, 2, none⟩ (.int .i64 n)).setCell ⟨w.heap.size + 1, 3, none⟩ (.slice (some ⟨g3, 0, none⟩) ts.length c3)).heap.size = w3.heap.size := by simp [World.setCell]
    rw [hS]
    refine OtIn.of (t := .mk k n nm ts) (Sa := Span w2.heap.size w3.heap.size) hnm (ht3.keep fun b hb _ => hk b (by have := hb.1; omega)) fun b hb => ⟨by have := hb.1; omega, hb.2⟩
  · exact ((((hb3'.setCell (by simp; omega) _).setCell (by simp) _).setCell (by simp) _).setCell (by simp) _).setCell (by simp) _

theorem infoOptic : (Tryz.prog.info? 30).map (fun i => (i.zero, i.size, i.bytes)) = some (some (.agg #[.int .i64 0, .string ⟨#[]⟩, .int .i64 0, .slice none 0 0]), 4, 56) := by kernel_rfl

/-- Row g of n elements; those below k are made, each in blocks of its own. -/
def OFilling (w : World) (lo g n k : Nat) (ts : List Ot) : Prop :=
  ∃ (cs : Array Value) (vs : Nat → Value) (bd : Nat → Nat), Whole1 w g 30 cs ∧ cs.size = n * 4 ∧ (∀ i, i < k → ∀ j, j < 4 → (partAt (vs i) j).isSome = true ∧ cs[i * 4 + j]? = partAt (vs i) j) ∧
    lo ≤ g ∧ g < bd 0 ∧ (∀ i, i < k → bd i ≤ bd (i + 1)) ∧ bd k ≤ w.heap.size ∧ ∀ i, (hi : i < ts.length) → i < k → OtIn w (Span (bd i) (bd (i + 1))) (vs i) ts[i]

theorem OFilling.done {w : World} {lo g : Nat} {ts : List Ot} (h : OFilling w lo g ts.length ts.length ts) (hm : ts.length ≤ maxLen) : OtsIn w (Span lo w.heap.size) (some ⟨g, 0, none⟩) ts := by
  obtain ⟨cs, vs, bd, h1, h2, h3, h4, h5, h6, h7, h8⟩ := h
  refine ⟨hm, g, vs, fun i => Span (bd i) (bd (i + 1)), .inr ⟨rfl, ⟨h4, h1.lt⟩, cs, h1, h3⟩, fun i hi b hb => ?_, fun i j hi hj hne b hb hb' => ?_, fun i hi => h8 i hi hi⟩
  · have a := bd_mono bd _ h6 0 i (by omega) (by omega)
    have c := bd_mono bd _ h6 (i + 1) ts.length (by omega) (Nat.le_refl _)
    have := hb.1
    have := hb.2
    exact ⟨⟨by omega, by omega⟩, by omega⟩
  · have := hb.1
    have := hb.2
    have := hb'.1
    have := hb'.2
    rcases Nat.lt_or_gt_of_ne hne with hlt | hlt
    · have a := bd_mono bd _ h6 (i + 1) j (by omega) (by omega)
      omega
    · have a := bd_mono bd _ h6 (j + 1) i (by omega) (by omega)
      omega
theorem OFilling.below {w w' : World} {lo g n k : Nat} {ts : List Ot} (h : OFilling w lo g n k ts) (hb : Below w.heap.size w w') : OFilling w' lo g n k ts := by
  obtain ⟨cs, vs, bd, h1, h2, h3, h4, h5, h6, h7, h8⟩ := h
  refine ⟨cs, vs, bd, h1.below hb h1.lt, h2, h3, h4, h5, h6, Nat.le_trans h7 hb.size, fun i hi hk => (h8 i hi hk).keep fun b hB _ => hb.block b ?_⟩
  have := bd_mono bd k h6 (i + 1) k (by omega) (Nat.le_refl _)
  have := hB.2
  omega
/-- The next element is stored. -/
theorem OFilling.step {w w' : World} {lo g n k : Nat} {ts : List Ot} {a b c d : Value} (h : OFilling w lo g n k ts) (hb : Below w.heap.size w w') (hk : k < n) (hkt : k < ts.length) (hv : OtIn w' (Span w.heap.size w'.heap.size) (.agg #[a, b, c, d]) ts[k]) :
    OFilling ((((w'.setCell ⟨g, k * 4, none⟩ a).setCell ⟨g, k * 4 + 1, none⟩ b).setCell ⟨g, k * 4 + 2, none⟩ c).setCell ⟨g, k * 4 + 3, none⟩ d) lo g n (k + 1) ts := by
  obtain ⟨cs, vs, bd, h1, h2, h3, h4, h5, h6, h7, h8⟩ := h
  have hlt := h1.lt
  have hw := ((((h1.below hb hlt).set (k * 4) a).set (k * 4 + 1) b).set (k * 4 + 2) c).set (k * 4 + 3) d
  have hsz := hb.size
  have hk' : ∀ q, q ≠ g → ((((w'.setCell ⟨g, k * 4, none⟩ a).setCell ⟨g, k * 4 + 1, none⟩ b).setCell ⟨g, k * 4 + 2, none⟩ c).setCell ⟨g, k * 4 + 3, none⟩ d).heap[q]? = w'.heap[q]? := fun q hq => by
    rw [Below.heap_setCell _ _ _ _ hq, Below.heap_setCell _ _ _ _ hq, Below.heap_setCell _ _ _ _ hq, Below.heap_setCell _ _ _ _ hq]
  have hS : ((((w'.setCell ⟨g, k * 4, none⟩ a).setCell ⟨g, k * 4 + 1, none⟩ b).setCell ⟨g, k * 4 + 2, none⟩ c).setCell ⟨g, k * 4 + 3, none⟩ d).heap.size = w'.heap.size := by simp [World.setCell]
  generalize (((w'.setCell ⟨g, k * 4, none⟩ a).setCell ⟨g, k * 4 + 1, none⟩ b).setCell ⟨g, k * 4 + 2, none⟩ c).setCell ⟨g, k * 4 + 3, none⟩ d = W at *
  have hg0 : ∀ i, i ≤ k → g < bd i := fun i hi => Nat.lt_of_lt_of_le h5 (bd_mono bd k h6 0 i (by omega) hi)
  refine ⟨_, fun j => if j = k then .agg #[a, b, c, d] else vs j, fun j => if j ≤ k then bd j else w'.heap.size, hw, by simp [h2], fun i hi j hj => ?_, h4, by simpa using h5, fun i hi => ?_, ?_, fun i hi hik => ?_⟩
  · dsimp only
    have hb3 : k * 4 + 3 < cs.size := by omega
    by_cases ek : i = k
    · subst ek
      rw [if_pos rfl]
      simp only [Array.getElem?_setIfInBounds, Array.size_setIfInBounds]
      have : j = 0 ∨ j = 1 ∨ j = 2 ∨ j = 3 := by omega
      rcases this with rfl | rfl | rfl | rfl
      · simp [partAt]; omega
      · simp [partAt]; omega
      · simp [partAt]; omega
      · simp [partAt]; omega
    · rw [if_neg ek]
      have hh := h3 i (by omega) j hj
      refine ⟨hh.1, ?_⟩
      rw [← hh.2]
      simp only [Array.getElem?_setIfInBounds, Array.size_setIfInBounds]
      rw [if_neg (by omega), if_neg (by omega), if_neg (by omega), if_neg (by omega)]
  · dsimp only
    by_cases ek : i = k
    · subst ek
      rw [if_pos (Nat.le_refl _), if_neg (by omega)]
      omega
    · rw [if_pos (by omega), if_pos (by omega)]
      exact h6 i (by omega)
  · dsimp only
    rw [if_neg (by omega), hS]
    exact Nat.le_refl _
  · dsimp only
    by_cases ek : i = k
    · subst ek
      rw [if_pos rfl, if_pos (Nat.le_refl _), if_neg (by omega)]
      refine (hv.wide fun q hq => ⟨by have := hq.1; omega, hq.2⟩).keep fun q hq _ => hk' q ?_
      have := hq.1
      have := hg0 i (Nat.le_refl _)
      omega
    · rw [if_neg ek, if_pos (by omega), if_pos (by omega)]
      refine (h8 i hi (by omega)).keep fun q hq _ => ?_
      have e1 := hq.1
      have e2 := hq.2
      have e3 := hg0 i (by omega)
      have e4 := bd_mono bd k h6 (i + 1) k (by omega) (Nat.le_refl _)
      rw [hk' q (by omega)]
      exact hb.block q (by omega)

theorem OFilling.cells {w : World} {lo g n k : Nat} {ts : List Ot} (h : OFilling w lo g n k ts) (i : Nat) (hi : i < n) : ∃ x y z u, w.cell? ⟨g, i * 4, none⟩ = some x ∧ w.cell? ⟨g, i * 4 + 1, none⟩ = some y ∧ w.cell? ⟨g, i * 4 + 2, none⟩ = some z ∧ w.cell? ⟨g, i * 4 + 3, none⟩ = some u ∧
    w.frozen? ⟨g, i * 4, none⟩ = false ∧ w.frozen? ⟨g, i * 4 + 1, none⟩ = false ∧ w.frozen? ⟨g, i * 4 + 2, none⟩ = false ∧ w.frozen? ⟨g, i * 4 + 3, none⟩ = false := by
  obtain ⟨cs, vs, bd, h1, h2, _⟩ := h
  refine ⟨cs[i * 4]'(by omega), cs[i * 4 + 1]'(by omega), cs[i * 4 + 2]'(by omega), cs[i * 4 + 3]'(by omega), ?_, ?_, ?_, ?_, h1.free _, h1.free _, h1.free _, h1.free _⟩
  all_goals rw [h1.cell, Array.getElem?_eq_getElem]
theorem OFilling.start (w : World) (cs : Array Value) (n : Nat) (ts : List Ot) (hs : cs.size = n * 4) : OFilling (w.alloc (.cells cs 30)) w.heap.size w.heap.size n 0 ts :=
  ⟨cs, fun _ => .bool false, fun _ => w.heap.size + 1, Whole1.new _ _ _, hs, fun i hi => absurd hi (by omega), Nat.le_refl _, Nat.lt_succ_self _, fun i hi => absurd hi (by omega), by simp, fun i _ hi => absurd hi (by omega)⟩

set_option maxHeartbeats 1000000 in
theorem toOpticS_of (ts : List Ot) (hall : ∀ i, (h : i < ts.length) → ToOOne ts[i]) : ToOMany ts := by
  intro A c w hA hsz
  have hm := hA.1
  have hle := szOts_len ts
  have HALL := Lib.hid hall
  clear hall
  obtain ⟨cs, hcs, hmk⟩ := run_make_elems (P := Tryz.prog) (n := ts.length) Tryz.underlying28 infoOptic (by omega) (by omega) w
  have hcs' := Lib.hid hcs
  clear hcs
  go_enter Tryz.func50, Tryz.ntmps50
  go_wp2
  go_loopw [4] (fun i wr => ∃ k : Nat, k ≤ ts.length ∧ i = .int .i64 k ∧ OFilling wr w.heap.size w.heap.size ts.length k ts ∧ Below w.heap.size w wr) (fun i _ => ts.length - (intOf i).toNat)
  case atStart => exact ⟨0, Nat.zero_le _, rfl, OFilling.start _ _ _ _ hcs'.out, (Below.refl _ _).alloc (Nat.le_refl _) _⟩
  case round =>
    obtain ⟨k, hk, rfl, hf, hb⟩ := hrel
    clear hmk
    by_cases hlt : k < ts.length
    · obtain ⟨b, off, A', ac, rfl, hbl, q0, q1, q2, q3, ht⟩ := (hA.below hb).elem k hlt
      have hpt := szOt_part ts k hlt
      have HT := Lib.hid (HALL.out k hlt _ wr (ht.more hb.size) (by omega))
      have HF := Lib.hid hf
      clear ht hf
      go_wp2_with fail
      refine HT.out.mono ?_
      rintro e w1 ⟨v, rfl, hv, hb1⟩
      have hv' := Lib.hid hv
      obtain ⟨A1, ac1, rfl, _⟩ := hv.open
      clear hv
      obtain ⟨x, y, z, x4, c1, c2, c3, c4, c5, c6, c7, c8⟩ := (HF.out.below hb1).cells k hlt
      have hst := Lib.hid (HF.out.step hb1 hlt hlt hv'.out)
      have hb' := hb.trans (hb1.mono hb.size)
      clear q0 q1 q2 q3 HF hv'
      go_wp2
      go_roundw
      case rel => exact ⟨k + 1, by omega, by go_num, hst.out, (((hb'.setCell (Nat.le_refl _) _).setCell (Nat.le_refl _) _).setCell (Nat.le_refl _) _).setCell (Nat.le_refl _) _⟩
      case measure => simp [intOf]; omega
    · have hke : k = ts.length := by omega
      subst hke
      go_wp2
      go_ret
      exact ⟨_, _, rfl, Nat.le_refl _, hf.done hm, hb⟩

theorem toOptic_any (t : Ot) : ToOOne t := by
  induction t using Ot.ind with
  | h k n nm ts ih => exact toOptic_of k n nm ts (toOpticS_of ts ih)


end Go.Proofs.YthdfidhijmcbdaaGreatDoor
