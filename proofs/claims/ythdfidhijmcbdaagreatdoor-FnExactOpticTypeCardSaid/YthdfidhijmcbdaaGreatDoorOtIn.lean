/- Trees of optics: what they are, and how they lie in memory. -/
import Derived.Test.YthdfidhijmcbdaaGreatDoorTyIn

namespace Go.Proofs.YthdfidhijmcbdaaGreatDoor
open Go.RowKit

inductive Ot where
  | mk (k n : Int) (nm : ByteArray) (ts : List Ot)

def Ot.kind : Ot → Int | .mk k _ _ _ => k
def Ot.num : Ot → Int | .mk _ n _ _ => n
def Ot.name : Ot → ByteArray | .mk _ _ nm _ => nm
def Ot.args : Ot → List Ot | .mk _ _ _ ts => ts

theorem Ot.ind {P : Ot → Prop} (h : ∀ k n nm (ts : List Ot), (∀ i, (hi : i < ts.length) → P ts[i]) → P (.mk k n nm ts)) (t : Ot) : P t :=
  Ot.rec (motive_1 := P) (motive_2 := fun ts => ∀ i, (hi : i < ts.length) → P ts[i]) h (fun i hi => absurd hi (Nat.not_lt_zero i))
    (fun a r ha hr i hi => match i, hi with | 0, _ => ha | i + 1, hi => hr i (Nat.lt_of_succ_lt_succ hi)) t

/-- The value reads as the tree; all that is read lies below block B. -/
inductive OtAt (w : World) (B : Nat) : Value → Ot → Prop where
  | mk {k n : Int} {nm : ByteArray} {ts : List Ot} {A : Option Addr} {ac : Nat} (vs : Nat → Value) (hnm : nm.size ≤ maxLen) (hm : ts.length ≤ maxLen) (hes : ElemsAt 4 w B A ts.length vs)
      (hks : ∀ i, (hi : i < ts.length) → OtAt w B (vs i) ts[i]) : OtAt w B (.agg #[.int .i64 k, .string nm, .int .i64 n, .slice A ts.length ac]) (.mk k n nm ts)

theorem OtAt.keep {w w' : World} {B : Nat} {v : Value} {t : Ot} (h : OtAt w B v t) (hk : ∀ p : Addr, p.block < B → w'.cell? p = w.cell? p) : OtAt w' B v t := by
  induction h with
  | mk vs hnm hm hes _ ih => exact .mk vs hnm hm (hes.keep hk) ih
theorem OtAt.more {w : World} {B B' : Nat} {v : Value} {t : Ot} (h : OtAt w B v t) (hB : B ≤ B') : OtAt w B' v t := by
  induction h with
  | mk vs hnm hm hes _ ih => exact .mk vs hnm hm (hes.more hB) ih
theorem OtAt.lift {w w' : World} {B : Nat} {v : Value} {t : Ot} (h : OtAt w B v t) (hb : Below B w w') : OtAt w' B v t := h.keep fun _ hp => hb.cell hp
theorem OtAt.up {w w' : World} {v : Value} {t : Ot} (h : OtAt w w.heap.size v t) (hb : Below w.heap.size w w') : OtAt w' w'.heap.size v t := (h.lift hb).more hb.size

/-- The slice (A, length, c) reads as the list of trees. -/
def OtsAt (w : World) (B : Nat) (A : Option Addr) (ts : List Ot) : Prop := ts.length ≤ maxLen ∧ ∃ vs : Nat → Value, ElemsAt 4 w B A ts.length vs ∧ ∀ i, (hi : i < ts.length) → OtAt w B (vs i) ts[i]
theorem OtsAt.keep {w w' : World} {B : Nat} {A : Option Addr} {ts : List Ot} (h : OtsAt w B A ts) (hk : ∀ p : Addr, p.block < B → w'.cell? p = w.cell? p) : OtsAt w' B A ts := by
  obtain ⟨h0, vs, h1, h2⟩ := h
  exact ⟨h0, vs, h1.keep hk, fun i hi => (h2 i hi).keep hk⟩
theorem OtsAt.more {w : World} {B B' : Nat} {A : Option Addr} {ts : List Ot} (h : OtsAt w B A ts) (hB : B ≤ B') : OtsAt w B' A ts := by
  obtain ⟨h0, vs, h1, h2⟩ := h
  exact ⟨h0, vs, h1.more hB, fun i hi => (h2 i hi).more hB⟩
theorem OtsAt.below {w w' : World} {B : Nat} {A : Option Addr} {ts : List Ot} (h : OtsAt w B A ts) (hb : Below B w w') : OtsAt w' B A ts := h.keep fun _ hp => hb.cell hp
theorem OtsAt.up {w w' : World} {A : Option Addr} {ts : List Ot} (h : OtsAt w w.heap.size A ts) (hb : Below w.heap.size w w') : OtsAt w' w'.heap.size A ts := (h.below hb).more hb.size

/-- What a value that reads as a tree looks like. -/
theorem OtAt.open {w : World} {B : Nat} {v : Value} {t : Ot} (h : OtAt w B v t) : ∃ A ac, v = .agg #[.int .i64 t.kind, .string t.name, .int .i64 t.num, .slice A t.args.length ac] ∧ t.name.size ≤ maxLen ∧ OtsAt w B A t.args := by
  cases h with
  | mk vs hnm hm hes hks => exact ⟨_, _, rfl, hnm, hm, vs, hes, hks⟩
theorem OtAt.of {w : World} {B ac : Nat} {A : Option Addr} {t : Ot} (hnm : t.name.size ≤ maxLen) (ha : OtsAt w B A t.args) : OtAt w B (.agg #[.int .i64 t.kind, .string t.name, .int .i64 t.num, .slice A t.args.length ac]) t := by
  obtain ⟨h0, vs, h1, h2⟩ := ha
  cases t
  exact .mk vs hnm h0 h1 h2

/-- Element i of a list of trees: its three cells. -/
theorem OtsAt.elem {w : World} {B : Nat} {A : Option Addr} {ts : List Ot} (h : OtsAt w B A ts) (i : Nat) (hi : i < ts.length) :
    ∃ b off A' ac, A = some ⟨b, off, none⟩ ∧ b < B ∧ w.cell? ⟨b, off + i * 4, none⟩ = some (.int .i64 ts[i].kind) ∧ w.cell? ⟨b, off + i * 4 + 2, none⟩ = some (.int .i64 ts[i].num) ∧ w.cell? ⟨b, off + i * 4 + 1, none⟩ = some (.string ts[i].name) ∧
      w.cell? ⟨b, off + i * 4 + 3, none⟩ = some (.slice A' ts[i].args.length ac) ∧
      OtAt w B (.agg #[.int .i64 ts[i].kind, .string ts[i].name, .int .i64 ts[i].num, .slice A' ts[i].args.length ac]) ts[i] := by
  obtain ⟨h0, vs, h1, h2⟩ := h
  obtain ⟨b, off, e, hb, hc⟩ := h1 i hi
  have ht := h2 i hi
  obtain ⟨A', ac, hv, _⟩ := ht.open
  rw [hv] at hc ht
  exact ⟨b, off, A', ac, e, hb, hc 0 (by omega), hc 2 (by omega), hc 1 (by omega), hc 3 (by omega), ht⟩

mutual
/-- What the law counts of a tree: its labels, their letters, its parts. -/
def szOt : Ot → Nat | .mk _ _ nm ts => nm.size + szOts ts
def szOts : List Ot → Nat | [] => 0 | t :: r => 1 + szOt t + szOts r
end
theorem szOts_append : ∀ (a b : List Ot), szOts (a ++ b) = szOts a + szOts b
  | [], b => by simp [szOts]
  | t :: a, b => by
    rw [List.cons_append, szOts, szOts, szOts_append a b]
    omega
theorem szOts_take (ts : List Ot) (k : Nat) (h : k < ts.length) : szOts (ts.take (k + 1)) = szOts (ts.take k) + 1 + szOt ts[k] := by
  rw [List.take_succ_eq_append_getElem h, szOts_append, szOts, szOts]
  omega
theorem szOts_len : ∀ (ts : List Ot), ts.length ≤ szOts ts
  | [] => Nat.le_refl _
  | t :: r => by
    have := szOts_len r
    rw [szOts, List.length_cons]
    omega
theorem szOts_le (ts : List Ot) (k : Nat) : szOts (ts.take k) + (ts.length - k) ≤ szOts ts := by
  have h := szOts_append (ts.take k) (ts.drop k)
  have h2 := szOts_len (ts.drop k)
  rw [List.take_append_drop] at h
  rw [List.length_drop] at h2
  omega
theorem szOt_part (ts : List Ot) (k : Nat) (h : k < ts.length) : szOt ts[k] + 1 ≤ szOts ts := by
  have h1 := szOts_take ts k h
  have h2 := szOts_le ts (k + 1)
  omega
theorem szOt_eq (t : Ot) : szOt t = t.name.size + szOts t.args := by
  cases t
  rw [szOt]
  rfl

end Go.Proofs.YthdfidhijmcbdaaGreatDoor

namespace Go.Proofs.YthdfidhijmcbdaaGreatDoor
open Go.RowKit

/-- The value reads as the tree; its blocks are all in S, no two of its slices share one. -/
inductive OtIn (w : World) : (Nat → Prop) → Value → Ot → Prop where
  | mk {S : Nat → Prop} {k n : Int} {nm : ByteArray} {ts : List Ot} {A : Option Addr} {ac : Nat} (ga : Nat) (vs : Nat → Value) (Ss : Nat → Nat → Prop)
      (hnm : nm.size ≤ maxLen) (hm : ts.length ≤ maxLen)
      (hes : ts = [] ∨ A = some ⟨ga, 0, none⟩ ∧ S ga ∧ ElemRow 4 30 w ga ts.length vs)
      (hsub : ∀ i, i < ts.length → ∀ b, Ss i b → S b ∧ b ≠ ga) (hdis : ∀ i j, i < ts.length → j < ts.length → i ≠ j → ∀ b, Ss i b → ¬ Ss j b)
      (hks : ∀ i, (hi : i < ts.length) → OtIn w (Ss i) (vs i) ts[i]) : OtIn w S (.agg #[.int .i64 k, .string nm, .int .i64 n, .slice A ts.length ac]) (.mk k n nm ts)

theorem OtIn.keep {w w' : World} {S : Nat → Prop} {v : Value} {t : Ot} (h : OtIn w S v t) (hk : ∀ b, S b → b < w.heap.size → w'.heap[b]? = w.heap[b]?) : OtIn w' S v t := by
  induction h with
  | mk ga vs Ss hnm hm hes hsub hdis _ ih =>
    refine .mk ga vs Ss hnm hm (hes.imp id fun ⟨h1, h2, h3⟩ => ⟨h1, h2, h3.keep (hk _ h2 h3.lt)⟩) hsub hdis fun i hi => ih i hi fun b hb => hk b (hsub i hi b hb).1
theorem OtIn.wide {w : World} {S S' : Nat → Prop} {v : Value} {t : Ot} (h : OtIn w S v t) (hS : ∀ b, S b → S' b) : OtIn w S' v t := by
  cases h with
  | mk ga vs Ss hnm hm hes hsub hdis hks =>
    exact .mk ga vs Ss hnm hm (hes.imp id fun ⟨h1, h2, h3⟩ => ⟨h1, hS _ h2, h3⟩) (fun i hi b hb => ⟨hS _ (hsub i hi b hb).1, (hsub i hi b hb).2⟩) hdis hks
theorem OtIn.at {w : World} {S : Nat → Prop} {v : Value} {t : Ot} (h : OtIn w S v t) (B : Nat) (hB : ∀ b, S b → b < w.heap.size → b < B) : OtAt w B v t := by
  induction h with
  | @mk S k n nm ts A ac ga vs Ss hnm hm hes hsub hdis _ ih =>
    refine .mk vs hnm hm ?_ fun i hi => ih i hi fun b hb => hB b (hsub i hi b hb).1
    · rcases hes with rfl | ⟨rfl, h2, h3⟩
      · exact fun i hi => absurd hi (by simp)
      · exact h3.at _ (hB _ h2 h3.lt)
theorem OtIn.here {w : World} {S : Nat → Prop} {v : Value} {t : Ot} (h : OtIn w S v t) : OtAt w w.heap.size v t := h.at _ fun _ _ h => h

/-- The slice (A, length, c) reads as the list of trees; its blocks are all in S. -/
def OtsIn (w : World) (S : Nat → Prop) (A : Option Addr) (ts : List Ot) : Prop :=
  ts.length ≤ maxLen ∧ ∃ (ga : Nat) (vs : Nat → Value) (Ss : Nat → Nat → Prop), (ts = [] ∨ A = some ⟨ga, 0, none⟩ ∧ S ga ∧ ElemRow 4 30 w ga ts.length vs) ∧
    (∀ i, i < ts.length → ∀ b, Ss i b → S b ∧ b ≠ ga) ∧ (∀ i j, i < ts.length → j < ts.length → i ≠ j → ∀ b, Ss i b → ¬ Ss j b) ∧ ∀ i, (hi : i < ts.length) → OtIn w (Ss i) (vs i) ts[i]
theorem OtsIn.at {w : World} {S : Nat → Prop} {A : Option Addr} {ts : List Ot} (h : OtsIn w S A ts) (B : Nat) (hB : ∀ b, S b → b < w.heap.size → b < B) : OtsAt w B A ts := by
  obtain ⟨h0, ga, vs, Ss, h1, h2, h3, h4⟩ := h
  refine ⟨h0, vs, ?_, fun i hi => (h4 i hi).at B fun b hb => hB b (h2 i hi b hb).1⟩
  rcases h1 with rfl | ⟨rfl, h5, h6⟩
  · exact fun i hi => absurd hi (by simp)
  · exact h6.at _ (hB _ h5 h6.lt)
theorem OtsIn.here {w : World} {S : Nat → Prop} {A : Option Addr} {ts : List Ot} (h : OtsIn w S A ts) : OtsAt w w.heap.size A ts := h.at _ fun _ _ h => h
theorem OtsIn.keep {w w' : World} {S : Nat → Prop} {A : Option Addr} {ts : List Ot} (h : OtsIn w S A ts) (hk : ∀ b, S b → b < w.heap.size → w'.heap[b]? = w.heap[b]?) : OtsIn w' S A ts := by
  obtain ⟨h0, ga, vs, Ss, h1, h2, h3, h4⟩ := h
  exact ⟨h0, ga, vs, Ss, h1.imp id fun ⟨a, b, c⟩ => ⟨a, b, c.keep (hk _ b c.lt)⟩, h2, h3, fun i hi => (h4 i hi).keep fun b hb => hk b (h2 i hi b hb).1⟩

/-- A tree of its parts. -/
theorem OtIn.of {w : World} {S Sa : Nat → Prop} {A : Option Addr} {ac : Nat} {t : Ot} (hnm : t.name.size ≤ maxLen) (ha : OtsIn w Sa A t.args) (hs : ∀ b, Sa b → S b) :
    OtIn w S (.agg #[.int .i64 t.kind, .string t.name, .int .i64 t.num, .slice A t.args.length ac]) t := by
  obtain ⟨h0, ga, vs, Ss, h1, h2, h3, h4⟩ := ha
  cases t with
  | mk k n nm ts =>
    simp only [Ot.args, Ot.kind, Ot.num, Ot.name] at *
    exact .mk ga vs Ss hnm h0 (h1.imp id fun ⟨a, b, c⟩ => ⟨a, hs _ b, c⟩) (fun i hi b hb => ⟨hs _ (h2 i hi b hb).1, (h2 i hi b hb).2⟩) h3 h4
theorem OtIn.open {w : World} {S : Nat → Prop} {v : Value} {t : Ot} (h : OtIn w S v t) :
    ∃ A ac, v = .agg #[.int .i64 t.kind, .string t.name, .int .i64 t.num, .slice A t.args.length ac] ∧ t.name.size ≤ maxLen ∧ OtsIn w S A t.args := by
  cases h with
  | mk ga vs Ss hnm hm hes hsub hdis hks =>
    exact ⟨_, _, rfl, hnm, hm, ga, vs, Ss, hes, hsub, hdis, hks⟩

end Go.Proofs.YthdfidhijmcbdaaGreatDoor
