/- laws.markOpticS lays marks into optics. -/
import Derived.Test.YthdfidhijmcbdaaGreatDoorToOt
import Derived.Test.YthdfidhijmcbdaaGreatDoorMarkTy

namespace Go.Proofs.YthdfidhijmcbdaaGreatDoor
open Go.RowKit

mutual
/-- How many marks a tree bears. -/
def cntOt : Ot → Nat | .mk _ _ _ ts => cntOts ts
def cntOts : List Ot → Nat | [] => 0 | t :: r => 3 + cntOt t + cntOts r
end
def setHeadO (k : Nat) : Ot → Ot | .mk _ _ _ ts => .mk k (k + 2 : Nat) (markB (k + 1)) ts
mutual
/-- The tree with marks from k on; its own root stands. -/
def markOt : Ot → Nat → Ot | .mk d n nm ts, k => .mk d n nm (markOts ts k)
def markOts : List Ot → Nat → List Ot | [], _ => [] | t :: r, k => setHeadO k (markOt t (k + 3)) :: markOts r (k + 3 + cntOt t)
end
theorem cntOt_eq (t : Ot) : cntOt t = cntOts t.args := by cases t; rw [cntOt]; rfl
theorem cntOts_append : ∀ (a b : List Ot), cntOts (a ++ b) = cntOts a + cntOts b
  | [], b => by simp [cntOts]
  | t :: a, b => by
    rw [List.cons_append, cntOts, cntOts, cntOts_append a b]
    omega
theorem cntOts_take (ts : List Ot) (k : Nat) (h : k < ts.length) : cntOts (ts.take (k + 1)) = cntOts (ts.take k) + 3 + cntOt ts[k] := by
  rw [List.take_succ_eq_append_getElem h, cntOts_append, cntOts, cntOts]
  omega
theorem cntOts_le (ts : List Ot) (k : Nat) : cntOts (ts.take k) ≤ cntOts ts := by
  have h := cntOts_append (ts.take k) (ts.drop k)
  rw [List.take_append_drop] at h
  omega
theorem markOts_len : ∀ (ts : List Ot) (k : Nat), (markOts ts k).length = ts.length
  | [], _ => by rw [markOts]
  | t :: r, k => by rw [markOts, List.length_cons, List.length_cons, markOts_len r]
theorem markOts_get : ∀ (ts : List Ot) (k i : Nat) (h : i < ts.length), (markOts ts k)[i]? = some (setHeadO (k + cntOts (ts.take i)) (markOt ts[i] (k + cntOts (ts.take i) + 3)))
  | [], _, i, h => absurd h (by simp)
  | t :: r, k, 0, _ => by rw [markOts]; simp [cntOts]
  | t :: r, k, i + 1, h => by
    rw [markOts, List.getElem?_cons_succ, markOts_get r _ i (by simpa using h)]
    simp only [List.take_succ_cons, cntOts, List.getElem_cons_succ]
    rw [show k + 3 + cntOt t + cntOts (r.take i) = k + (3 + cntOt t + cntOts (r.take i)) by omega]
mutual
theorem cnt_le_szO : ∀ (t : Ot), cntOt t ≤ 3 * szOt t
  | .mk _ _ _ ts => by
    rw [cntOt, szOt]
    have := cnts_le_szOs ts
    omega
theorem cnts_le_szOs : ∀ (ts : List Ot), cntOts ts ≤ 3 * szOts ts
  | [] => by simp [cntOts]
  | t :: r => by
    rw [cntOts, szOts]
    have := cnt_le_szO t
    have := cnts_le_szOs r
    omega
end

theorem markOIn {w : World} {S : Nat → Prop} {A : Option Addr} {ac : Nat} {t : Ot} (q : Nat) (hnm : t.name.size ≤ maxLen) (ha : OtsIn w S A (markOts t.args q)) :
    OtIn w S (.agg #[.int .i64 t.kind, .string t.name, .int .i64 t.num, .slice A t.args.length ac]) (markOt t q) := by
  cases t with
  | mk k n nm ts =>
    simp only [Ot.args, Ot.kind, Ot.num, Ot.name] at *
    rw [markOt]
    have hal := markOts_len ts q
    have h := OtIn.of (w := w) (S := S) (Sa := S) (A := A) (ac := ac) (t := .mk k n nm (markOts ts q)) hnm ha (fun b hb => hb)
    simp only [Ot.args, Ot.kind, Ot.num, Ot.name] at h
    rw [hal] at h
    exact h

/-- A list of trees is marked. -/
def MarkedOts (w : World) (S : Nat → Prop) (A : Option Addr) (k : Nat) (ts : List Ot) (e : Ending) (w' : World) : Prop :=
  e = .returned (.int .i64 ((k + cntOts ts : Nat) : Int)) ∧ OtsIn w' S A (markOts ts k) ∧ OnlyIn S w w'

def MarkOMany (ts : List Ot) : Prop := ∀ (S : Nat → Prop) (A : Option Addr) (c k : Nat) (w : World), OtsIn w S A ts → 0 < k → k + cntOts ts ≤ 2 ^ 62 → Calls Tryz.prog 56 #[.slice A ts.length c, .int .i64 k] w (MarkedOts w S A k ts)

/-- The first j elements are marked. -/
def OMarking (w : World) (ga : Nat) (Ss : Nat → Nat → Prop) (ts : List Ot) (k j : Nat) : Prop :=
  ∃ vs : Nat → Value, ElemRow 4 30 w ga ts.length vs ∧ (∀ i, (hi : i < ts.length) → i < j → OtIn w (Ss i) (vs i) (setHeadO (k + cntOts (ts.take i)) (markOt ts[i] (k + cntOts (ts.take i) + 3)))) ∧ (∀ i, (hi : i < ts.length) → j ≤ i → OtIn w (Ss i) (vs i) ts[i])

theorem OMarking.done {w : World} {S : Nat → Prop} {ga k : Nat} {Ss : Nat → Nat → Prop} {ts : List Ot} (h : OMarking w ga Ss ts k ts.length) (hm : ts.length ≤ maxLen) (hS : S ga) (h2 : ∀ i, i < ts.length → ∀ b, Ss i b → S b ∧ b ≠ ga) (h3 : ∀ i j, i < ts.length → j < ts.length → i ≠ j → ∀ b, Ss i b → ¬ Ss j b) :
    OtsIn w S (some ⟨ga, 0, none⟩) (markOts ts k) := by
  obtain ⟨vs, h4, h5, _⟩ := h
  have hl := markOts_len ts k
  refine ⟨by rw [hl]; exact hm, ga, vs, Ss, .inr ⟨rfl, hS, by rw [hl]; exact h4⟩, by rw [hl]; exact h2, by rw [hl]; exact h3, fun i hi => ?_⟩
  have hi' : i < ts.length := by omega
  have hg := markOts_get ts k i hi'
  rw [List.getElem?_eq_getElem hi] at hg
  rw [Option.some.inj hg]
  exact h5 i hi' hi'

theorem OtIn.setHeadO {w : World} {S : Nat → Prop} {A : Option Addr} {ac : Nat} {k0 n0 : Int} {nm0 : ByteArray} {m : Nat} {t : Ot} (h : OtIn w S (.agg #[.int .i64 k0, .string nm0, .int .i64 n0, .slice A m ac]) t) (k : Nat) (hk : k + 2 ≤ 2 ^ 62) : OtIn w S (.agg #[.int .i64 k, .string (markB (k + 1)), .int .i64 ((k + 2 : Nat) : Int), .slice A m ac]) (setHeadO k t) := by
  have h62 := markB_size (k + 1) (by omega)
  cases h with
  | mk ga vs Ss hnm hm hes hsub hdis hks => exact .mk ga vs Ss (by unfold maxLen; omega) hm hes hsub hdis hks

theorem ElemRow.congrO {sz : Nat} {t : TypeId} {w : World} {g m : Nat} {vs vs' : Nat → Value} (h : ElemRow sz t w g m vs) (he : ∀ i, vs i = vs' i) : ElemRow sz t w g m vs' := by
  have : vs = vs' := funext he
  rw [← this]
  exact h
theorem ElemRow.set4 {t : TypeId} {w : World} {g m : Nat} {vs : Nat → Value} {cs0 : Array Value} {x : Value} {i o : Nat} (h : ElemRow 4 t w g m vs) (hi : i < m) (hv : vs i = .agg cs0) (ho : o < 4) (hz : cs0.size = 4) : ElemRow 4 t (w.setCell ⟨g, i * 4 + o, none⟩ x) g m (fun j => if j = i then .agg (cs0.setIfInBounds o x) else vs j) := by
  obtain ⟨cs, h1, h2⟩ := h
  have hsz : i * 4 + o < cs.size := by
    have h3 := h2 i hi o ho
    have h4 := h3.1
    rw [← h3.2] at h4
    rcases Nat.lt_or_ge (i * 4 + o) cs.size with h5 | h5
    · exact h5
    · rw [Array.getElem?_eq_none h5] at h4
      cases h4
  refine ⟨_, h1.set (i * 4 + o) x, fun q hq j hj => ?_⟩
  dsimp only
  by_cases e : q = i
  · subst e
    rw [if_pos rfl, Array.getElem?_setIfInBounds]
    have h3 := h2 q hi j hj
    rw [hv] at h3
    by_cases ej : o = j
    · subst ej
      rw [if_pos rfl, if_pos hsz]
      simp [partAt, hz, ho]
    · rw [if_neg (by omega)]
      simp only [partAt] at h3 ⊢
      rw [Array.getElem?_setIfInBounds, if_neg ej]
      exact h3
  · rw [if_neg e, Array.getElem?_setIfInBounds, if_neg (by omega)]
    exact h2 q hq j hj

set_option maxHeartbeats 1000000 in
theorem markOpticS_of (ts : List Ot) (hall : ∀ i, (h : i < ts.length) → MarkOMany ts[i].args) : MarkOMany ts := by
  intro S A c k w hA h0 h1
  obtain ⟨hm, ga, vs0, Ss, hrow, hsub, hdis, hks⟩ := hA
  have HALL := Lib.hid hall
  clear hall
  rcases hrow with rfl | ⟨rfl, hSa, hrow⟩
  · go_enter Tryz.func56, Tryz.ntmps56
    go_wp2
    go_loop [1, 5] (fun m i => m = .int .i64 (k : Int) ∧ i = .int .i64 0) (fun _ _ => 0)
    case atStart => exact ⟨rfl, rfl⟩
    case round =>
      obtain ⟨rfl, rfl⟩ := hrel
      go_wp2
      go_ret
      refine ⟨rfl, ?_, OnlyIn.refl _ _⟩
      rw [markOts]
      exact ⟨hm, ga, vs0, Ss, .inl rfl, fun i hi => absurd hi (by simp), fun i _ hi => absurd hi (by simp), fun i hi => absurd hi (by simp)⟩
  · have HSUB := Lib.hid hsub
    have HDIS := Lib.hid hdis
    have HM := Lib.hid hm
    have hstart : OMarking w ga Ss ts k 0 := ⟨vs0, hrow, fun i _ hi => absurd hi (by omega), fun i hi _ => hks i hi⟩
    unfold maxLen at hm
    clear hrow hks hsub hdis
    go_enter Tryz.func56, Tryz.ntmps56
    go_wp2
    go_loopw [1, 5] (fun m i wr => ∃ j q : Nat, j ≤ ts.length ∧ i = .int .i64 j ∧ m = .int .i64 (q : Int) ∧ Hid (q = k + cntOts (ts.take j)) ∧ OMarking wr ga Ss ts k j ∧ OnlyIn S w wr) (fun _ i _ => ts.length - (intOf i).toNat)
    case atStart => exact ⟨0, k, Nat.zero_le _, rfl, rfl, Lib.hid (by simp [cntOts]), hstart, OnlyIn.refl _ _⟩
    case round =>
      obtain ⟨j, q, hj, rfl, rfl, hq, hM, ho⟩ := hrel
      clear hstart
      by_cases hlt : j < ts.length
      · have hc1 := Lib.hid (cntOts_take ts j hlt)
        have hc2 := cntOts_le ts (j + 1)
        have hc4 := Lib.hid (cntOt_eq ts[j])
        have hq1 : q + 3 + cntOts ts[j].args ≤ 2 ^ 62 := by have := hc1.out; have := hc4.out; have := hq.out; omega
        obtain ⟨vs, hrow, hdone, hrest⟩ := hM
        obtain ⟨A', ac, hv, hnm, ha⟩ := (hrest j hlt (Nat.le_refl _)).open
        have hcell := fun (o : Nat) (ho : o < 4) => (hrow.cell j o hlt ho).trans (congrArg (partAt · o) hv)
        have q0 : wr.cell? ⟨ga, j * 4, none⟩ = some (.int .i64 ts[j].kind) := hcell 0 (by omega)
        have q0' : wr.frozen? ⟨ga, j * 4, none⟩ = false := hrow.free _
        have R1 : ElemRow 4 30 (wr.setCell ⟨ga, j * 4, none⟩ (.int .i64 (q : Int))) ga ts.length (fun i => if i = j then .agg #[.int .i64 (q : Int), .string ts[j].name, .int .i64 ts[j].num, .slice A' ts[j].args.length ac] else vs i) := (hrow.set4 (x := .int .i64 (q : Int)) (o := 0) hlt hv (by omega) rfl).congrO fun i => by
          by_cases e : i = j
          · rw [if_pos e, if_pos e]; rfl
          · rw [if_neg e, if_neg e]
        have hgal := hrow.lt
        have HR2a := Lib.hid R1
        have hkeep0 := Lib.hid (fun b (hb : b ≠ ga) => Below.heap_setCell wr ⟨ga, j * 4, none⟩ (.int .i64 (q : Int)) b hb)
        have HD := Lib.hid hdone
        have HV := Lib.hid hv
        have HE := Lib.hid hrest
        have HA' := Lib.hid ha
        have ho0 := Lib.hid (ho.set hSa (j * 4) (.int .i64 (q : Int)))
        have hs0 : wr.heap.size ≤ (wr.setCell ⟨ga, j * 4, none⟩ (.int .i64 (q : Int))).heap.size := by simp [World.setCell]
        have HMT := Lib.hid (fun W => (show Calls Tryz.prog 85 #[.int .i64 ((q : Int) + 1)] W fun e w' => e = .returned (.string (markB (q + 1))) ∧ Below W.heap.size W w' by
          have := markText_any (q + 1) W (by omega) (by omega)
          rw [show ((q + 1 : Nat) : Int) = (q : Int) + 1 by omega] at this
          exact this))
        clear hrow hdone hrest hv ha hcell R1
        go_wp2_with fail
        clear q0 q0'
        generalize (wr.setCell ⟨ga, j * 4, none⟩ (.int .i64 (q : Int))) = w2a at *
        refine (HMT.out w2a).mono ?_
        rintro e wm ⟨rfl, hbm⟩
        have R2m := HR2a.out.keep (hbm.block ga (by omega))
        have q1 : wm.cell? ⟨ga, j * 4 + 1, none⟩ = some (.string ts[j].name) := by
          have := R2m.cell j 1 hlt (by omega)
          rw [if_pos rfl] at this
          exact this
        have q1' : wm.frozen? ⟨ga, j * 4 + 1, none⟩ = false := R2m.free _
        have hrow1 : Hid (ElemRow 4 30 (wm.setCell ⟨ga, j * 4 + 1, none⟩ (.string (markB (q + 1)))) ga ts.length (fun i => if i = j then .agg #[.int .i64 (q : Int), .string (markB (q + 1)), .int .i64 ts[j].num, .slice A' ts[j].args.length ac] else vs i)) := Lib.hid ((R2m.set4 (x := .string (markB (q + 1))) (o := 1) hlt (by rw [if_pos rfl]) (by omega) rfl).congrO fun i => by
          by_cases e : i = j
          · rw [if_pos e, if_pos e]; rfl
          · rw [if_neg e, if_neg e, if_neg e])
        have q2 : (wm.setCell ⟨ga, j * 4 + 1, none⟩ (.string (markB (q + 1)))).cell? ⟨ga, j * 4 + 2, none⟩ = some (.int .i64 ts[j].num) := by
          have := hrow1.out.cell j 2 hlt (by omega)
          rw [if_pos rfl] at this
          exact this
        have q2' : (wm.setCell ⟨ga, j * 4 + 1, none⟩ (.string (markB (q + 1)))).frozen? ⟨ga, j * 4 + 2, none⟩ = false := hrow1.out.free _
        have hrow2 : Hid (ElemRow 4 30 ((wm.setCell ⟨ga, j * 4 + 1, none⟩ (.string (markB (q + 1)))).setCell ⟨ga, j * 4 + 2, none⟩ (.int .i64 ((q : Int) + 1 + 1))) ga ts.length (fun i => if i = j then .agg #[.int .i64 (q : Int), .string (markB (q + 1)), .int .i64 ((q : Int) + 1 + 1), .slice A' ts[j].args.length ac] else vs i)) := Lib.hid ((hrow1.out.set4 (x := .int .i64 ((q : Int) + 1 + 1)) (o := 2) hlt (by rw [if_pos rfl]) (by omega) rfl).congrO fun i => by
          by_cases e : i = j
          · rw [if_pos e, if_pos e]; rfl
          · rw [if_neg e, if_neg e, if_neg e])
        have q3 : ((wm.setCell ⟨ga, j * 4 + 1, none⟩ (.string (markB (q + 1)))).setCell ⟨ga, j * 4 + 2, none⟩ (.int .i64 ((q : Int) + 1 + 1))).cell? ⟨ga, j * 4 + 3, none⟩ = some (.slice A' ts[j].args.length ac) := by
          have := hrow2.out.cell j 3 hlt (by omega)
          rw [if_pos rfl] at this
          exact this
        have hsm := hbm.size
        have hkeep : Hid (∀ b, b ≠ ga → b < wr.heap.size → ((wm.setCell ⟨ga, j * 4 + 1, none⟩ (.string (markB (q + 1)))).setCell ⟨ga, j * 4 + 2, none⟩ (.int .i64 ((q : Int) + 1 + 1))).heap[b]? = wr.heap[b]?) := Lib.hid fun b hb hlt' => (Below.heap_setCell (wm.setCell ⟨ga, j * 4 + 1, none⟩ (.string (markB (q + 1)))) ⟨ga, j * 4 + 2, none⟩ _ b hb).trans ((Below.heap_setCell wm ⟨ga, j * 4 + 1, none⟩ _ b hb).trans ((hbm.block b (by omega)).trans (hkeep0.out b hb)))
        have ho1 := Lib.hid (((ho0.out.trans (OnlyIn.of_below hbm)).set hSa (j * 4 + 1) (.string (markB (q + 1)))).set hSa (j * 4 + 2) (.int .i64 ((q : Int) + 1 + 1)))
        have hs1 : wr.heap.size ≤ ((wm.setCell ⟨ga, j * 4 + 1, none⟩ (.string (markB (q + 1)))).setCell ⟨ga, j * 4 + 2, none⟩ (.int .i64 ((q : Int) + 1 + 1))).heap.size := by simp [World.setCell]; omega
        clear R2m hbm HR2a hrow1
        go_wp2_with fail
        clear q1 q1' q2 q2' q3
        generalize (wm.setCell ⟨ga, j * 4 + 1, none⟩ (.string (markB (q + 1)))).setCell ⟨ga, j * 4 + 2, none⟩ (.int .i64 ((q : Int) + 1 + 1)) = w1 at *
        have ha2 := Lib.hid (HA'.out.keep (fun b hb hlt' => hkeep.out b (HSUB.out j hlt _ hb).2 hlt'))
        refine (HALL.out j hlt _ _ ac (q + 3) w1 ha2.out (by omega) (by omega)).mono ?_
        rintro e w3 ⟨rfl, ht3, ho3⟩
        have hs3 := ho3.size
        have HT3 := Lib.hid ht3
        have hM3 : Hid (OMarking w3 ga Ss ts k (j + 1)) := by
          apply Lib.hid
          have hqe := hq.out
          refine ⟨_, hrow2.out.keep (ho3.block ga (by omega) fun h => (HSUB.out j hlt _ h).2 rfl), fun i hi hij => ?_, fun i hi hij => ?_⟩
          · by_cases e : i = j
            · subst e
              rw [if_pos rfl, ← hqe]
              rw [show (q : Int) + 1 + 1 = ((q + 2 : Nat) : Int) by omega]
              exact OtIn.setHeadO (k0 := ts[i].kind) (n0 := ts[i].num) (nm0 := ts[i].name) (markOIn (q + 3) hnm HT3.out) q (by omega)
            · rw [if_neg e]
              refine (HD.out i hi (by omega)).keep fun b hb hbl => ?_
              rw [ho3.block b (by omega) fun h => HDIS.out i j hi hlt e b hb h]
              exact hkeep.out b (HSUB.out i hi b hb).2 hbl
          · have e : i ≠ j := by omega
            rw [if_neg e]
            refine (HE.out i hi (by omega)).keep fun b hb hbl => ?_
            rw [ho3.block b (by omega) fun h => HDIS.out i j hi hlt e b hb h]
            exact hkeep.out b (HSUB.out i hi b hb).2 hbl
        have hO3 := Lib.hid (ho1.out.trans (ho3.wide fun b hb => (HSUB.out j hlt _ hb).1))
        clear ht3 ho3
        go_wp2
        go_roundw
        case rel => exact ⟨j + 1, q + 3 + cntOts ts[j].args, by omega, by go_num, rfl, Lib.hid (by have := hc1.out; have := hc4.out; have := hq.out; omega), hM3.out, hO3.out⟩
        case measure => simp [intOf]; omega
      · have hje : j = ts.length := by omega
        subst hje
        rw [List.take_length] at hq
        have hqe := hq.out
        have HQ := Lib.hid hqe
        clear hqe
        have HMk := Lib.hid hM
        clear hM
        go_wp2
        go_ret
        exact ⟨by rw [HQ.out]; rfl, HMk.out.done HM.out hSa HSUB.out HDIS.out, ho⟩

end Go.Proofs.YthdfidhijmcbdaaGreatDoor
