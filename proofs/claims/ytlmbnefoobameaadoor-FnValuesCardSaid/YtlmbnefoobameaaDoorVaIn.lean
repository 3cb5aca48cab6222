/- Trees of values: what they are, and how they lie in memory. -/
import Derived.Test.YtlmbnefoobameaaDoorTyIn

namespace Go.Proofs.YtlmbnefoobameaaDoor
open Go.RowKit

inductive Va where
  | mk (k n : Int) (nm : ByteArray) (ls : List ByteArray) (ts : List Va)

def Va.kind : Va → Int | .mk k _ _ _ _ => k
def Va.num : Va → Int | .mk _ n _ _ _ => n
def Va.name : Va → ByteArray | .mk _ _ nm _ _ => nm
def Va.labels : Va → List ByteArray | .mk _ _ _ ls _ => ls
def Va.args : Va → List Va | .mk _ _ _ _ ts => ts

theorem Va.ind {P : Va → Prop} (h : ∀ k n nm ls (ts : List Va), (∀ i, (hi : i < ts.length) → P ts[i]) → P (.mk k n nm ls ts)) (t : Va) : P t :=
  Va.rec (motive_1 := P) (motive_2 := fun ts => ∀ i, (hi : i < ts.length) → P ts[i]) h (fun i hi => absurd hi (Nat.not_lt_zero i))
    (fun a r ha hr i hi => match i, hi with | 0, _ => ha | i + 1, hi => hr i (Nat.lt_of_succ_lt_succ hi)) t

/-- The value reads as the tree; all that is read lies below block B. -/
inductive VaAt (w : World) (B : Nat) : Value → Va → Prop where
  | mk {k n : Int} {nm : ByteArray} {ls : List ByteArray} {ts : List Va} {L A : Option Addr} {lc ac : Nat} (vs : Nat → Value) (hnm : nm.size ≤ maxLen) (hn : ls.length ≤ maxLen) (hz : ∀ i, (h : i < ls.length) → ls[i].size ≤ maxLen) (hm : ts.length ≤ maxLen) (hls : StrsAt w B L ls) (hes : ElemsAt 5 w B A ts.length vs)
      (hks : ∀ i, (hi : i < ts.length) → VaAt w B (vs i) ts[i]) : VaAt w B (.agg #[.int .i64 k, .int .i64 n, .string nm, .slice L ls.length lc, .slice A ts.length ac]) (.mk k n nm ls ts)

theorem VaAt.keep {w w' : World} {B : Nat} {v : Value} {t : Va} (h : VaAt w B v t) (hk : ∀ p : Addr, p.block < B → w'.cell? p = w.cell? p) : VaAt w' B v t := by
  induction h with
  | mk vs hnm hn hz hm hls hes _ ih => exact .mk vs hnm hn hz hm (hls.keep hk) (hes.keep hk) ih
theorem VaAt.more {w : World} {B B' : Nat} {v : Value} {t : Va} (h : VaAt w B v t) (hB : B ≤ B') : VaAt w B' v t := by
  induction h with
  | mk vs hnm hn hz hm hls hes _ ih => exact .mk vs hnm hn hz hm (hls.more hB) (hes.more hB) ih
theorem VaAt.lift {w w' : World} {B : Nat} {v : Value} {t : Va} (h : VaAt w B v t) (hb : Below B w w') : VaAt w' B v t := h.keep fun _ hp => hb.cell hp
theorem VaAt.up {w w' : World} {v : Value} {t : Va} (h : VaAt w w.heap.size v t) (hb : Below w.heap.size w w') : VaAt w' w'.heap.size v t := (h.lift hb).more hb.size

/-- The slice (A, length, c) reads as the list of trees. -/
def VasAt (w : World) (B : Nat) (A : Option Addr) (ts : List Va) : Prop := ts.length ≤ maxLen ∧ ∃ vs : Nat → Value, ElemsAt 5 w B A ts.length vs ∧ ∀ i, (hi : i < ts.length) → VaAt w B (vs i) ts[i]
theorem VasAt.keep {w w' : World} {B : Nat} {A : Option Addr} {ts : List Va} (h : VasAt w B A ts) (hk : ∀ p : Addr, p.block < B → w'.cell? p = w.cell? p) : VasAt w' B A ts := by
  obtain ⟨h0, vs, h1, h2⟩ := h
  exact ⟨h0, vs, h1.keep hk, fun i hi => (h2 i hi).keep hk⟩
theorem VasAt.more {w : World} {B B' : Nat} {A : Option Addr} {ts : List Va} (h : VasAt w B A ts) (hB : B ≤ B') : VasAt w B' A ts := by
  obtain ⟨h0, vs, h1, h2⟩ := h
  exact ⟨h0, vs, h1.more hB, fun i hi => (h2 i hi).more hB⟩
theorem VasAt.below {w w' : World} {B : Nat} {A : Option Addr} {ts : List Va} (h : VasAt w B A ts) (hb : Below B w w') : VasAt w' B A ts := h.keep fun _ hp => hb.cell hp
theorem VasAt.up {w w' : World} {A : Option Addr} {ts : List Va} (h : VasAt w w.heap.size A ts) (hb : Below w.heap.size w w') : VasAt w' w'.heap.size A ts := (h.below hb).more hb.size

/-- What a value that reads as a tree looks like. -/
theorem VaAt.open {w : World} {B : Nat} {v : Value} {t : Va} (h : VaAt w B v t) : ∃ L lc A ac, v = .agg #[.int .i64 t.kind, .int .i64 t.num, .string t.name, .slice L t.labels.length lc, .slice A t.args.length ac] ∧ t.name.size ≤ maxLen ∧ t.labels.length ≤ maxLen ∧ (∀ i, (h : i < t.labels.length) → t.labels[i].size ≤ maxLen) ∧ StrsAt w B L t.labels ∧ VasAt w B A t.args := by
  cases h with
  | mk vs hnm hn hz hm hls hes hks => exact ⟨_, _, _, _, rfl, hnm, hn, hz, hls, hm, vs, hes, hks⟩
theorem VaAt.of {w : World} {B lc ac : Nat} {L A : Option Addr} {t : Va} (hnm : t.name.size ≤ maxLen) (hn : t.labels.length ≤ maxLen) (hz : ∀ i, (h : i < t.labels.length) → t.labels[i].size ≤ maxLen) (hl : StrsAt w B L t.labels) (ha : VasAt w B A t.args) : VaAt w B (.agg #[.int .i64 t.kind, .int .i64 t.num, .string t.name, .slice L t.labels.length lc, .slice A t.args.length ac]) t := by
  obtain ⟨h0, vs, h1, h2⟩ := ha
  cases t
  exact .mk vs hnm hn hz h0 hl h1 h2

/-- Element i of a list of trees: its three cells. -/
theorem VasAt.elem {w : World} {B : Nat} {A : Option Addr} {ts : List Va} (h : VasAt w B A ts) (i : Nat) (hi : i < ts.length) :
    ∃ b off L lc A' ac, A = some ⟨b, off, none⟩ ∧ b < B ∧ w.cell? ⟨b, off + i * 5, none⟩ = some (.int .i64 ts[i].kind) ∧ w.cell? ⟨b, off + i * 5 + 1, none⟩ = some (.int .i64 ts[i].num) ∧ w.cell? ⟨b, off + i * 5 + 2, none⟩ = some (.string ts[i].name) ∧
      w.cell? ⟨b, off + i * 5 + 3, none⟩ = some (.slice L ts[i].labels.length lc) ∧ w.cell? ⟨b, off + i * 5 + 4, none⟩ = some (.slice A' ts[i].args.length ac) ∧
      VaAt w B (.agg #[.int .i64 ts[i].kind, .int .i64 ts[i].num, .string ts[i].name, .slice L ts[i].labels.length lc, .slice A' ts[i].args.length ac]) ts[i] := by
  obtain ⟨h0, vs, h1, h2⟩ := h
  obtain ⟨b, off, e, hb, hc⟩ := h1 i hi
  have ht := h2 i hi
  obtain ⟨L, lc, A', ac, hv, _⟩ := ht.open
  rw [hv] at hc ht
  exact ⟨b, off, L, lc, A', ac, e, hb, hc 0 (by omega), hc 1 (by omega), hc 2 (by omega), hc 3 (by omega), hc 4 (by omega), ht⟩

mutual
/-- What the law counts of a tree: its labels, their letters, its parts. -/
def szVa : Va → Nat | .mk _ _ nm ls ts => nm.size + (ls.length + sumSizes ls) + szVas ts
def szVas : List Va → Nat | [] => 0 | t :: r => 1 + szVa t + szVas r
end
theorem szVas_append : ∀ (a b : List Va), szVas (a ++ b) = szVas a + szVas b
  | [], b => by simp [szVas]
  | t :: a, b => by
    rw [List.cons_append, szVas, szVas, szVas_append a b]
    omega
theorem szVas_take (ts : List Va) (k : Nat) (h : k < ts.length) : szVas (ts.take (k + 1)) = szVas (ts.take k) + 1 + szVa ts[k] := by
  rw [List.take_succ_eq_append_getElem h, szVas_append, szVas, szVas]
  omega
theorem szVas_len : ∀ (ts : List Va), ts.length ≤ szVas ts
  | [] => Nat.le_refl _
  | t :: r => by
    have := szVas_len r
    rw [szVas, List.length_cons]
    omega
theorem szVas_le (ts : List Va) (k : Nat) : szVas (ts.take k) + (ts.length - k) ≤ szVas ts := by
  have h := szVas_append (ts.take k) (ts.drop k)
  have h2 := szVas_len (ts.drop k)
  rw [List.take_append_drop] at h
  rw [List.length_drop] at h2
  omega
theorem szVa_part (ts : List Va) (k : Nat) (h : k < ts.length) : szVa ts[k] + 1 ≤ szVas ts := by
  have h1 := szVas_take ts k h
  have h2 := szVas_le ts (k + 1)
  omega
theorem szVa_eq (t : Va) : szVa t = t.name.size + (t.labels.length + sumSizes t.labels) + szVas t.args := by
  cases t
  rw [szVa]
  rfl

end Go.Proofs.YtlmbnefoobameaaDoor

namespace Go.Proofs.YtlmbnefoobameaaDoor
open Go.RowKit

/-- The value reads as the tree; its blocks are all in S, no two of its slices share one. -/
inductive VaIn (w : World) : (Nat → Prop) → Value → Va → Prop where
  | mk {S : Nat → Prop} {k n : Int} {nm : ByteArray} {ls : List ByteArray} {ts : List Va} {L A : Option Addr} {lc ac : Nat} (gl ga : Nat) (vs : Nat → Value) (Ss : Nat → Nat → Prop)
      (hnm : nm.size ≤ maxLen) (hn : ls.length ≤ maxLen) (hz : ∀ i, (h : i < ls.length) → ls[i].size ≤ maxLen) (hm : ts.length ≤ maxLen)
      (hls : ls = [] ∨ L = some ⟨gl, 0, none⟩ ∧ S gl ∧ RowStrs w gl ls) (hes : ts = [] ∨ A = some ⟨ga, 0, none⟩ ∧ S ga ∧ ElemRow 5 27 w ga ts.length vs) (hne : gl ≠ ga)
      (hsub : ∀ i, i < ts.length → ∀ b, Ss i b → S b ∧ b ≠ gl ∧ b ≠ ga) (hdis : ∀ i j, i < ts.length → j < ts.length → i ≠ j → ∀ b, Ss i b → ¬ Ss j b)
      (hks : ∀ i, (hi : i < ts.length) → VaIn w (Ss i) (vs i) ts[i]) : VaIn w S (.agg #[.int .i64 k, .int .i64 n, .string nm, .slice L ls.length lc, .slice A ts.length ac]) (.mk k n nm ls ts)

theorem VaIn.keep {w w' : World} {S : Nat → Prop} {v : Value} {t : Va} (h : VaIn w S v t) (hk : ∀ b, S b → b < w.heap.size → w'.heap[b]? = w.heap[b]?) : VaIn w' S v t := by
  induction h with
  | mk gl ga vs Ss hnm hn hz hm hls hes hne hsub hdis _ ih =>
    refine .mk gl ga vs Ss hnm hn hz hm (hls.imp id fun ⟨h1, h2, h3⟩ => ⟨h1, h2, h3.same (hk _ h2 h3.lt)⟩) (hes.imp id fun ⟨h1, h2, h3⟩ => ⟨h1, h2, h3.keep (hk _ h2 h3.lt)⟩) hne hsub hdis fun i hi => ih i hi fun b hb => hk b (hsub i hi b hb).1
theorem VaIn.wide {w : World} {S S' : Nat → Prop} {v : Value} {t : Va} (h : VaIn w S v t) (hS : ∀ b, S b → S' b) : VaIn w S' v t := by
  cases h with
  | mk gl ga vs Ss hnm hn hz hm hls hes hne hsub hdis hks =>
    exact .mk gl ga vs Ss hnm hn hz hm (hls.imp id fun ⟨h1, h2, h3⟩ => ⟨h1, hS _ h2, h3⟩) (hes.imp id fun ⟨h1, h2, h3⟩ => ⟨h1, hS _ h2, h3⟩) hne (fun i hi b hb => ⟨hS _ (hsub i hi b hb).1, (hsub i hi b hb).2⟩) hdis hks
theorem VaIn.at {w : World} {S : Nat → Prop} {v : Value} {t : Va} (h : VaIn w S v t) (B : Nat) (hB : ∀ b, S b → b < w.heap.size → b < B) : VaAt w B v t := by
  induction h with
  | @mk S k n nm ls ts L A lc ac gl ga vs Ss hnm hn hz hm hls hes hne hsub hdis _ ih =>
    refine .mk vs hnm hn hz hm ?_ ?_ fun i hi => ih i hi fun b hb => hB b (hsub i hi b hb).1
    · rcases hls with rfl | ⟨rfl, h2, h3⟩
      · exact StrsAt.empty _ _ _
      · exact h3.at _ (hB _ h2 h3.lt)
    · rcases hes with rfl | ⟨rfl, h2, h3⟩
      · exact fun i hi => absurd hi (by simp)
      · exact h3.at _ (hB _ h2 h3.lt)
theorem VaIn.here {w : World} {S : Nat → Prop} {v : Value} {t : Va} (h : VaIn w S v t) : VaAt w w.heap.size v t := h.at _ fun _ _ h => h

/-- The slice (A, length, c) reads as the list of trees; its blocks are all in S. -/
def VasIn (w : World) (S : Nat → Prop) (A : Option Addr) (ts : List Va) : Prop :=
  ts.length ≤ maxLen ∧ ∃ (ga : Nat) (vs : Nat → Value) (Ss : Nat → Nat → Prop), (ts = [] ∨ A = some ⟨ga, 0, none⟩ ∧ S ga ∧ ElemRow 5 27 w ga ts.length vs) ∧
    (∀ i, i < ts.length → ∀ b, Ss i b → S b ∧ b ≠ ga) ∧ (∀ i j, i < ts.length → j < ts.length → i ≠ j → ∀ b, Ss i b → ¬ Ss j b) ∧ ∀ i, (hi : i < ts.length) → VaIn w (Ss i) (vs i) ts[i]
theorem VasIn.at {w : World} {S : Nat → Prop} {A : Option Addr} {ts : List Va} (h : VasIn w S A ts) (B : Nat) (hB : ∀ b, S b → b < w.heap.size → b < B) : VasAt w B A ts := by
  obtain ⟨h0, ga, vs, Ss, h1, h2, h3, h4⟩ := h
  refine ⟨h0, vs, ?_, fun i hi => (h4 i hi).at B fun b hb => hB b (h2 i hi b hb).1⟩
  rcases h1 with rfl | ⟨rfl, h5, h6⟩
  · exact fun i hi => absurd hi (by simp)
  · exact h6.at _ (hB _ h5 h6.lt)
theorem VasIn.here {w : World} {S : Nat → Prop} {A : Option Addr} {ts : List Va} (h : VasIn w S A ts) : VasAt w w.heap.size A ts := h.at _ fun _ _ h => h
theorem VasIn.keep {w w' : World} {S : Nat → Prop} {A : Option Addr} {ts : List Va} (h : VasIn w S A ts) (hk : ∀ b, S b → b < w.heap.size → w'.heap[b]? = w.heap[b]?) : VasIn w' S A ts := by
  obtain ⟨h0, ga, vs, Ss, h1, h2, h3, h4⟩ := h
  exact ⟨h0, ga, vs, Ss, h1.imp id fun ⟨a, b, c⟩ => ⟨a, b, c.keep (hk _ b c.lt)⟩, h2, h3, fun i hi => (h4 i hi).keep fun b hb => hk b (h2 i hi b hb).1⟩

/-- A tree of labels and parts that lie apart. -/
theorem VaIn.of {w : World} {S Sa : Nat → Prop} {L A : Option Addr} {lc ac gl : Nat} {t : Va} (hnm : t.name.size ≤ maxLen) (hn : t.labels.length ≤ maxLen) (hz : ∀ i, (h : i < t.labels.length) → t.labels[i].size ≤ maxLen)
    (hl : t.labels = [] ∨ L = some ⟨gl, 0, none⟩ ∧ S gl ∧ RowStrs w gl t.labels) (ha : VasIn w Sa A t.args) (hs : ∀ b, Sa b → S b ∧ b ≠ gl) :
    VaIn w S (.agg #[.int .i64 t.kind, .int .i64 t.num, .string t.name, .slice L t.labels.length lc, .slice A t.args.length ac]) t := by
  obtain ⟨h0, ga, vs, Ss, h1, h2, h3, h4⟩ := ha
  cases t with
  | mk k n nm ls ts =>
    simp only [Va.labels, Va.args, Va.kind, Va.num, Va.name] at *
    rcases h1 with rfl | ⟨rfl, h5, h6⟩
    · exact .mk gl (gl + 1) vs Ss hnm hn hz h0 hl (.inl rfl) (by omega) (fun i hi => absurd hi (by simp)) (fun i _ hi => absurd hi (by simp)) h4
    · exact .mk gl ga vs Ss hnm hn hz h0 hl (.inr ⟨rfl, (hs _ h5).1, h6⟩) (fun e => (hs _ h5).2 e.symm) (fun i hi b hb => ⟨(hs _ (h2 i hi b hb).1).1, (hs _ (h2 i hi b hb).1).2, (h2 i hi b hb).2⟩) h3 h4
theorem VaIn.open {w : World} {S : Nat → Prop} {v : Value} {t : Va} (h : VaIn w S v t) :
    ∃ L lc A ac gl, v = .agg #[.int .i64 t.kind, .int .i64 t.num, .string t.name, .slice L t.labels.length lc, .slice A t.args.length ac] ∧ t.name.size ≤ maxLen ∧ t.labels.length ≤ maxLen ∧ (∀ i, (h : i < t.labels.length) → t.labels[i].size ≤ maxLen) ∧
      (t.labels = [] ∨ L = some ⟨gl, 0, none⟩ ∧ S gl ∧ RowStrs w gl t.labels) ∧ VasIn w (fun b => S b ∧ b ≠ gl) A t.args := by
  cases h with
  | mk gl ga vs Ss hnm hn hz hm hls hes hne hsub hdis hks =>
    exact ⟨_, _, _, _, gl, rfl, hnm, hn, hz, hls, hm, ga, vs, Ss, hes.imp id fun ⟨a, b, c⟩ => ⟨a, ⟨b, fun e => hne e.symm⟩, c⟩, fun i hi b hb => ⟨⟨(hsub i hi b hb).1, (hsub i hi b hb).2.1⟩, (hsub i hi b hb).2.2⟩, hdis, hks⟩

end Go.Proofs.YtlmbnefoobameaaDoor
