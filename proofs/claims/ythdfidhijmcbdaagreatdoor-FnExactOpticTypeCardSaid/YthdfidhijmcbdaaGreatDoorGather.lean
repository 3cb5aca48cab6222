/- laws.toTypeS, and with it toType at every tree. -/
import Derived.Test.YthdfidhijmcbdaaGreatDoorToTy
import Derived.Test.YthdfidhijmcbdaaGreatDoorAppend

namespace Go.Proofs.YthdfidhijmcbdaaGreatDoor
open Go.RowKit

theorem Filling.cells {w : World} {lo g n k : Nat} {ts : List Ty} (h : Filling w lo g n k ts) (i : Nat) (hi : i < n) : ∃ x y z, w.cell? ⟨g, i * 3, none⟩ = some x ∧ w.cell? ⟨g, i * 3 + 1, none⟩ = some y ∧ w.cell? ⟨g, i * 3 + 2, none⟩ = some z ∧
    w.frozen? ⟨g, i * 3, none⟩ = false ∧ w.frozen? ⟨g, i * 3 + 1, none⟩ = false ∧ w.frozen? ⟨g, i * 3 + 2, none⟩ = false := by
  obtain ⟨cs, vs, bd, h1, h2, _⟩ := h
  refine ⟨cs[i * 3]'(by omega), cs[i * 3 + 1]'(by omega), cs[i * 3 + 2]'(by omega), ?_, ?_, ?_, h1.free _, h1.free _, h1.free _⟩
  all_goals rw [h1.cell, Array.getElem?_eq_getElem]
theorem Filling.start (w : World) (cs : Array Value) (n : Nat) (ts : List Ty) (hs : cs.size = n * 3) : Filling (w.alloc (.cells cs 27)) w.heap.size w.heap.size n 0 ts :=
  ⟨cs, fun _ => .bool false, fun _ => w.heap.size + 1, Whole1.new _ _ _, hs, fun i hi => absurd hi (by omega), Nat.le_refl _, Nat.lt_succ_self _, fun i hi => absurd hi (by omega), by simp, fun i _ hi => absurd hi (by omega)⟩

set_option maxHeartbeats 1000000 in
theorem toTypeS_of (ts : List Ty) (hall : ∀ i, (h : i < ts.length) → ToOne ts[i]) : ToMany ts := by
  intro A c w hA hsz
  have hm := hA.1
  have hle := szTys_len ts
  have HALL := Lib.hid hall
  clear hall
  obtain ⟨cs, hcs, hmk⟩ := run_make_elems (P := Tryz.prog) (n := ts.length) Tryz.underlying25 infoType (by omega) (by omega) w
  have hcs' := Lib.hid hcs
  clear hcs
  go_enter Tryz.func49, Tryz.ntmps49
  go_wp2
  go_loopw [4] (fun i wr => ∃ k : Nat, k ≤ ts.length ∧ i = .int .i64 k ∧ Filling wr w.heap.size w.heap.size ts.length k ts ∧ Below w.heap.size w wr) (fun i _ => ts.length - (intOf i).toNat)
  case atStart => exact ⟨0, Nat.zero_le _, rfl, Filling.start _ _ _ _ hcs'.out, (Below.refl _ _).alloc (Nat.le_refl _) _⟩
  case round =>
    obtain ⟨k, hk, rfl, hf, hb⟩ := hrel
    clear hmk
    by_cases hlt : k < ts.length
    · obtain ⟨b, off, L, lc, A', ac, rfl, hbl, q0, q1, q2, hn, hz, hl, ha, ht⟩ := (hA.below hb).elem k hlt
      have hpt := szTy_part ts k hlt
      have HT := Lib.hid (HALL.out k hlt _ wr (ht.more hb.size) (by omega))
      have HF := Lib.hid hf
      clear ht ha hl hz hf
      go_wp2_with fail
      refine HT.out.mono ?_
      rintro e w1 ⟨v, rfl, hv, hb1⟩
      have hv' := Lib.hid hv
      obtain ⟨L1, lc1, A1, ac1, gl1, rfl, _⟩ := hv.open
      clear hv
      obtain ⟨x, y, z, c1, c2, c3, c4, c5, c6⟩ := (HF.out.below hb1).cells k hlt
      have hst := Lib.hid (HF.out.step hb1 hlt hlt hv'.out)
      have hb' := hb.trans (hb1.mono hb.size)
      clear q0 q1 q2 HF hv'
      go_wp2
      go_roundw
      case rel => exact ⟨k + 1, by omega, by go_num, hst.out, ((hb'.setCell (Nat.le_refl _) _).setCell (Nat.le_refl _) _).setCell (Nat.le_refl _) _⟩
      case measure => simp [intOf]; omega
    · have hke : k = ts.length := by omega
      subst hke
      go_wp2
      go_ret
      exact ⟨_, _, rfl, Nat.le_refl _, hf.done hm, hb⟩

theorem toType_any (t : Ty) : ToOne t := by
  induction t using Ty.ind with
  | h k ls ts ih => exact toType_of k ls ts (toTypeS_of ts ih)

end Go.Proofs.YthdfidhijmcbdaaGreatDoor

namespace Go.Proofs.YthdfidhijmcbdaaGreatDoor
open Go.RowKit

/-- The value v owns a row of k elements, the aggregates vs, whose cells are xs; each reads as its tree, in blocks of its own. -/
structure GatherAt (w : World) (base : Nat) (v : Value) (k : Nat) (ts : List Ty) (xs : List Value) (vs : Nat → Value) (lo hi : Nat → Nat) : Prop where
  own : w.ownsRow base 27 3 v k xs
  cells : ∀ i, i < k → ∀ j, j < 3 → (partAt (vs i) j).isSome = true ∧ xs[i * 3 + j]? = partAt (vs i) j
  low : ∀ i, i < k → base ≤ lo i ∧ hi i ≤ w.heap.size
  apart : ∀ i j, i < j → j < k → hi i ≤ lo j
  free : ∀ i, i < k → ∀ g, v.ownBlock = some g → ¬ Span (lo i) (hi i) g
  kids : ∀ i, (h : i < ts.length) → i < k → TyIn w (Span (lo i) (hi i)) (vs i) ts[i]
def Gather (w : World) (base : Nat) (v : Value) (k : Nat) (ts : List Ty) : Prop := ∃ xs vs lo hi, GatherAt w base v k ts xs vs lo hi

theorem Gather.start (w : World) (base : Nat) (ts : List Ty) : Gather w base (.slice none 0 0) 0 ts :=
  ⟨[], fun _ => .bool false, fun _ => 0, fun _ => 0, World.ownsRow_nil w base _ 3, fun _ h => absurd h (Nat.not_lt_zero _), fun _ h => absurd h (Nat.not_lt_zero _), fun _ _ _ h => absurd h (Nat.not_lt_zero _), fun _ h => absurd h (Nat.not_lt_zero _), fun _ _ h => absurd h (Nat.not_lt_zero _)⟩

theorem own_keep {w w' : World} {base k : Nat} {e : TypeId} {v : Value} {xs : List Value} (h : w.ownsRow base e 3 v k xs) (hk : ∀ g, v.ownBlock = some g → w'.heap[g]? = w.heap[g]?) : w'.ownsRow base e 3 v k xs := by
  refine ⟨h.1, ?_⟩
  rcases h.2 with h2 | ⟨g, cap, cur, h1, h2, h3, h4⟩
  · exact .inl h2
  · exact .inr ⟨g, cap, cur, h1, h2, (hk g (by rw [h1]; rfl)).trans h3, h4⟩

/-- Where the blocks from base on stand, but for one outside, all stands. -/
theorem GatherAt.keep {w w' : World} {base k : Nat} {v : Value} {ts : List Ty} {xs : List Value} {vs : Nat → Value} {lo hi : Nat → Nat} (h : GatherAt w base v k ts xs vs lo hi) (hs : w.heap.size ≤ w'.heap.size) (hk : ∀ g, base ≤ g → g < w.heap.size → w'.heap[g]? = w.heap[g]?) : GatherAt w' base v k ts xs vs lo hi :=
  ⟨own_keep h.own fun g hg => hk g (h.own.lt g hg).1 (h.own.lt g hg).2, h.cells, fun i hi' => ⟨(h.low i hi').1, Nat.le_trans (h.low i hi').2 hs⟩, h.apart, h.free,
    fun i hi' hik => (h.kids i hi' hik).keep fun b hb hbl => hk b (Nat.le_trans (h.low i hik).1 hb.1) hbl⟩
theorem Gather.keep {w w' : World} {base k : Nat} {v : Value} {ts : List Ty} (h : Gather w base v k ts) (hs : w.heap.size ≤ w'.heap.size) (hk : ∀ g, base ≤ g → g < w.heap.size → w'.heap[g]? = w.heap[g]?) : Gather w' base v k ts := by
  obtain ⟨xs, vs, lo, hi, h⟩ := h
  exact ⟨xs, vs, lo, hi, h.keep hs hk⟩
theorem Gather.below {w w' : World} {base k : Nat} {v : Value} {ts : List Ty} (h : Gather w base v k ts) (hb : Below w.heap.size w w') : Gather w' base v k ts := h.keep hb.size fun g _ hg => hb.block g hg
theorem Gather.set {w : World} {base k p o : Nat} {v u : Value} {ts : List Ty} (h : Gather w base v k ts) (hp : p < base) : Gather (w.setCell ⟨p, o, none⟩ u) base v k ts :=
  h.keep (by simp [World.setCell]) fun g hg _ => Below.heap_setCell _ _ _ _ (by show g ≠ p; omega)

/-- One more tree is appended. -/
theorem GatherAt.step {w w1 w3 : World} {base k g cap : Nat} {v a b c : Value} {ts : List Ty} {xs : List Value} {vs : Nat → Value} {lo hi : Nat → Nat} (h : GatherAt w base v k ts xs vs lo hi) (hb : Below w.heap.size w w1) (hbase : base ≤ w.heap.size) (hk : k < ts.length)
    (ht : TyIn w1 (Span w.heap.size w1.heap.size) (.agg #[a, b, c]) ts[k]) (hown : w3.ownsRow base 27 3 (.slice (some ⟨g, 0, none⟩) (k + 1) cap) (k + 1) (xs ++ [a, b, c]))
    (hg : (w1.alloc (.cells #[a, b, c] 27)).grownBy w3 v.ownBlock) (hat : v.ownBlock = some g ∨ g = w1.heap.size + 1) : Gather w3 base (.slice (some ⟨g, 0, none⟩) (k + 1) cap) (k + 1) ts := by
  have hs1 := hb.size
  have hs3 : w1.heap.size + 1 ≤ w3.heap.size := by have := hg.size; simp at this; exact this
  have hxl : xs.length = k * 3 := h.own.1
  have hkeep : ∀ q, q < w1.heap.size → v.ownBlock ≠ some q → w3.heap[q]? = w1.heap[q]? := fun q hq hne =>
    (hg.block q (by simp; omega) (fun e => hne e.symm)).trans (Below.heap_alloc _ _ _ hq)
  refine ⟨xs ++ [a, b, c], fun i => if i = k then .agg #[a, b, c] else vs i, fun i => if i = k then w.heap.size else lo i, fun i => if i = k then w1.heap.size else hi i, hown, fun i hi' j hj => ?_, fun i hi' => ?_, fun i j hij hj => ?_, fun i hi' q hq => ?_, fun i hi' hik => ?_⟩
  · by_cases e : i = k
    · subst e
      rw [if_pos rfl, List.getElem?_append_right (by omega), hxl]
      have : j = 0 ∨ j = 1 ∨ j = 2 := by omega
      rcases this with rfl | rfl | rfl
      · simp [partAt]
      · simp [partAt]
      · simp [partAt]
    · rw [if_neg e, List.getElem?_append_left (by omega)]
      exact h.cells i (by omega) j hj
  · by_cases e : i = k
    · rw [if_pos e, if_pos e]
      omega
    · rw [if_neg e, if_neg e]
      have := h.low i (by omega)
      omega
  · rw [if_neg (show i ≠ k by omega)]
    by_cases e : j = k
    · rw [if_pos e]
      exact (h.low i (by omega)).2
    · rw [if_neg e]
      exact h.apart i j hij (by omega)
  · have hqg : q = g := (Option.some.inj hq).symm
    subst hqg
    by_cases e : i = k
    · rw [if_pos e, if_pos e]
      intro hs
      have a1 := hs.1
      have a2 := hs.2
      rcases hat with hat | hat
      · have := (h.own.lt q hat).2
        omega
      · omega
    · rw [if_neg e, if_neg e]
      rcases hat with hat | hat
      · exact h.free i (by omega) q hat
      · intro hs
        have := hs.2
        have := (h.low i (by omega)).2
        omega
  · by_cases e : i = k
    · subst e
      rw [if_pos rfl, if_pos rfl, if_pos rfl]
      refine ht.keep fun q hq _ => hkeep q hq.2 fun hv => ?_
      have := (h.own.lt q hv).2
      have := hq.1
      omega
    · rw [if_neg e, if_neg e, if_neg e]
      refine (h.kids i hi' (by omega)).keep fun q hq hql => ?_
      rw [hkeep q (by omega) fun hv => h.free i (by omega) q hv hq]
      exact hb.block q hql

theorem Gather.done {w : World} {base c : Nat} {A : Option Addr} {ts : List Ty} (h : Gather w base (.slice A ts.length c) ts.length ts) (hm : ts.length ≤ maxLen) : TysIn w (Span base w.heap.size) A ts := by
  obtain ⟨xs, vs, lo, hi, h⟩ := h
  have hdis : ∀ i j, i < ts.length → j < ts.length → i ≠ j → ∀ b, Span (lo i) (hi i) b → ¬ Span (lo j) (hi j) b := fun i j hi' hj hne b hb hb' => by
    have := hb.1
    have := hb.2
    have := hb'.1
    have := hb'.2
    rcases Nat.lt_or_gt_of_ne hne with hlt | hlt
    · have := h.apart i j hlt hj
      omega
    · have := h.apart j i hlt hi'
      omega
  rcases h.own.2 with ⟨_, h2⟩ | ⟨g, cap, cur, h1, h2, h3, h4, h5, h6, h7⟩
  · have : ts = [] := List.length_eq_zero_iff.1 h2
    subst this
    exact ⟨hm, 0, vs, fun _ _ => False, .inl rfl, fun i hi => absurd hi (by simp), fun i _ hi => absurd hi (by simp), fun i hi => absurd hi (by simp)⟩
  · injection h1 with h1 _ _
    subst h1
    have hgl := (h.own.lt g rfl).2
    refine ⟨hm, g, vs, fun i => Span (lo i) (hi i), .inr ⟨rfl, ⟨h2, hgl⟩, cur, h3, fun i hi' j hj => ?_⟩, fun i hi' b hb => ⟨⟨?_, ?_⟩, fun e => h.free i hi' g rfl (by rw [← e]; exact hb)⟩, hdis, fun i hi' => h.kids i hi' hi'⟩
    · have hc := h.cells i hi' j hj
      refine ⟨hc.1, ?_⟩
      rw [← hc.2, ← h7, List.getElem?_take, if_pos (by omega)]
      simp
    · have := (h.low i hi').1
      have := hb.1
      omega
    · have := (h.low i hi').2
      have := hb.2
      omega

end Go.Proofs.YthdfidhijmcbdaaGreatDoor
