/- Lemmas: OtIn, OPlace, SzOt, Gather, ToOt, EqOt, SpecOt. -/
import Derived.Test.YtlmbnefoobameaaGreatDoorLawFnOpticText_1
import Derived.Test.YtlmbnefoobameaaGreatDoorProg
import Derived.Outline
import Derived.Deep.RegionHeld3

section
namespace Go.Proofs.YtlmbnefoobameaaGreatDoor
open Go.RowKit

inductive Ot where
  | mk (k n : Int) (nm : ByteArray) (ts : List Ot)

def Ot.kind : Ot → Int | .mk k _ _ _ => k
def Ot.num : Ot → Int | .mk _ n _ _ => n
def Ot.name : Ot → ByteArray | .mk _ _ nm _ => nm
def Ot.args : Ot → List Ot | .mk _ _ _ ts => ts

theorem Ot.ind {P : Ot → Prop} (h : ∀ k n nm (ts : List Ot), (∀ i, (hi : i < ts.length) → P ts[i]) → P (.mk k n nm ts)) (t : Ot) : P t :=
  Ot.rec (motive_1 := P) (motive_2 := fun ts => ∀ i, (hi : i < ts.length) → P ts[i]) h (fun i hi => absurd hi (Nat.not_lt_zero i))
    (fun a r ha hr i hi => match i, hi with | 0, _ => ha | i + 1, hi => hr i (Nat.lt_of_succ_lt_succ hi)) t

/-- The value reads as the tree; all that is read lies below block B. -/
inductive OtAt (w : World) (B : Nat) : Value → Ot → Prop where
  | mk {k n : Int} {nm : ByteArray} {ts : List Ot} {A : Option Addr} {ac : Nat} (vs : Nat → Value) (hnm : nm.size ≤ maxLen) (hm : ts.length ≤ maxLen) (hes : ElemsAt 4 w B A ts.length vs)
      (hks : ∀ i, (hi : i < ts.length) → OtAt w B (vs i) ts[i]) : OtAt w B (.agg #[.int .i64 k, .string nm, .int .i64 n, .slice A ts.length ac]) (.mk k n nm ts)

theorem OtAt.keep {w w' : World} {B : Nat} {v : Value} {t : Ot} (h : OtAt w B v t) (hk : ∀ p : Addr, p.block < B → w'.cell? p = w.cell? p) : OtAt w' B v t := by
  induction h with
  | mk vs hnm hm hes _ ih => exact .mk vs hnm hm (hes.keep hk) ih
theorem OtAt.more {w : World} {B B' : Nat} {v : Value} {t : Ot} (h : OtAt w B v t) (hB : B ≤ B') : OtAt w B' v t := by
  induction h with
  | mk vs hnm hm hes _ ih => exact .mk vs hnm hm (hes.more hB) ih
theorem OtAt.lift {w w' : World} {B : Nat} {v : Value} {t : Ot} (h : OtAt w B v t) (hb : Below B w w') : OtAt w' B v t := h.keep fun _ hp => hb.cell hp
theorem OtAt.up {w w' : World} {v : Value} {t : Ot} (h : OtAt w w.heap.size v t) (hb : Below w.heap.size w w') : OtAt w' w'.heap.size v t := (h.lift hb).more hb.size

/-- The slice (A, length, c) reads as the list of trees. -/
def OtsAt (w : World) (B : Nat) (A : Option Addr) (ts : List Ot) : Prop := ts.length ≤ maxLen ∧ ∃ vs : Nat → Value, ElemsAt 4 w B A ts.length vs ∧ ∀ i, (hi : i < ts.length) → OtAt w B (vs i) ts[i]
theorem OtsAt.keep {w w' : World} {B : Nat} {A : Option Addr} {ts : List Ot} (h : OtsAt w B A ts) (hk : ∀ p : Addr, p.block < B → w'.cell? p = w.cell? p) : OtsAt w' B A ts := by
  obtain ⟨h0, vs, h1, h2⟩ := h
  exact ⟨h0, vs, h1.keep hk, fun i hi => (h2 i hi).keep hk⟩
theorem OtsAt.more {w : World} {B B' : Nat} {A : Option Addr} {ts : List Ot} (h : OtsAt w B A ts) (hB : B ≤ B') : OtsAt w B' A ts := by
  obtain ⟨h0, vs, h1, h2⟩ := h
  exact ⟨h0, vs, h1.more hB, fun i hi => (h2 i hi).more hB⟩
theorem OtsAt.below {w w' : World} {B : Nat} {A : Option Addr} {ts : List Ot} (h : OtsAt w B A ts) (hb : Below B w w') : OtsAt w' B A ts := h.keep fun _ hp => hb.cell hp
theorem OtsAt.up {w w' : World} {A : Option Addr} {ts : List Ot} (h : OtsAt w w.heap.size A ts) (hb : Below w.heap.size w w') : OtsAt w' w'.heap.size A ts := (h.below hb).more hb.size

/-- What a value that reads as a tree looks like. -/
theorem OtAt.open {w : World} {B : Nat} {v : Value} {t : Ot} (h : OtAt w B v t) : ∃ A ac, v = .agg #[.int .i64 t.kind, .string t.name, .int .i64 t.num, .slice A t.args.length ac] ∧ t.name.size ≤ maxLen ∧ OtsAt w B A t.args := by
  cases h with
  | mk vs hnm hm hes hks => exact ⟨_, _, rfl, hnm, hm, vs, hes, hks⟩
theorem OtAt.of {w : World} {B ac : Nat} {A : Option Addr} {t : Ot} (hnm : t.name.size ≤ maxLen) (ha : OtsAt w B A t.args) : OtAt w B (.agg #[.int .i64 t.kind, .string t.name, .int .i64 t.num, .slice A t.args.length ac]) t := by
  obtain ⟨h0, vs, h1, h2⟩ := ha
  cases t
  exact .mk vs hnm h0 h1 h2

/-- Element i of a list of trees: its three cells. -/
theorem OtsAt.elem {w : World} {B : Nat} {A : Option Addr} {ts : List Ot} (h : OtsAt w B A ts) (i : Nat) (hi : i < ts.length) :
    ∃ b off A' ac, A = some ⟨b, off, none⟩ ∧ b < B ∧ w.cell? ⟨b, off + i * 4, none⟩ = some (.int .i64 ts[i].kind) ∧ w.cell? ⟨b, off + i * 4 + 2, none⟩ = some (.int .i64 ts[i].num) ∧ w.cell? ⟨b, off + i * 4 + 1, none⟩ = some (.string ts[i].name) ∧
      w.cell? ⟨b, off + i * 4 + 3, none⟩ = some (.slice A' ts[i].args.length ac) ∧
      OtAt w B (.agg #[.int .i64 ts[i].kind, .string ts[i].name, .int .i64 ts[i].num, .slice A' ts[i].args.length ac]) ts[i] := by
  obtain ⟨h0, vs, h1, h2⟩ := h
  obtain ⟨b, off, e, hb, hc⟩ := h1 i hi
  have ht := h2 i hi
  obtain ⟨A', ac, hv, _⟩ := ht.open
  rw [hv] at hc ht
  exact ⟨b, off, A', ac, e, hb, hc 0 (by omega), hc 2 (by omega), hc 1 (by omega), hc 3 (by omega), ht⟩

mutual
/-- What the law counts of a tree: its labels, their letters, its parts. -/
def szOt : Ot → Nat | .mk _ _ nm ts => nm.size + szOts ts
def szOts : List Ot → Nat | [] => 0 | t :: r => 1 + szOt t + szOts r
end
theorem szOts_append : ∀ (a b : List Ot), szOts (a ++ b) = szOts a + szOts b
  | [], b => by simp [szOts]
  | t :: a, b => by
    rw [List.cons_append, szOts, szOts, szOts_append a b]
    omega
theorem szOts_take (ts : List Ot) (k : Nat) (h : k < ts.length) : szOts (ts.take (k + 1)) = szOts (ts.take k) + 1 + szOt ts[k] := by
  rw [List.take_succ_eq_append_getElem h, szOts_append, szOts, szOts]
  omega
theorem szOts_len : ∀ (ts : List Ot), ts.length ≤ szOts ts
  | [] => Nat.le_refl _
  | t :: r => by
    have := szOts_len r
    rw [szOts, List.length_cons]
    omega
theorem szOts_le (ts : List Ot) (k : Nat) : szOts (ts.take k) + (ts.length - k) ≤ szOts ts := by
  have h := szOts_append (ts.take k) (ts.drop k)
  have h2 := szOts_len (ts.drop k)
  rw [List.take_append_drop] at h
  rw [List.length_drop] at h2
  omega
theorem szOt_part (ts : List Ot) (k : Nat) (h : k < ts.length) : szOt ts[k] + 1 ≤ szOts ts := by
  have h1 := szOts_take ts k h
  have h2 := szOts_le ts (k + 1)
  omega
theorem szOt_eq (t : Ot) : szOt t = t.name.size + szOts t.args := by
  cases t
  rw [szOt]
  rfl

end Go.Proofs.YtlmbnefoobameaaGreatDoor

namespace Go.Proofs.YtlmbnefoobameaaGreatDoor
open Go.RowKit

/-- The value reads as the tree; its blocks are all in S, no two of its slices share one. -/
inductive OtIn (w : World) : (Nat → Prop) → Value → Ot → Prop where
  | mk {S : Nat → Prop} {k n : Int} {nm : ByteArray} {ts : List Ot} {A : Option Addr} {ac : Nat} (ga : Nat) (vs : Nat → Value) (Ss : Nat → Nat → Prop)
      (hnm : nm.size ≤ maxLen) (hm : ts.length ≤ maxLen)
      (hes : ts = [] ∨ A = some ⟨ga, 0, none⟩ ∧ S ga ∧ ElemRow 4 26 w ga ts.length vs)
      (hsub : ∀ i, i < ts.length → ∀ b, Ss i b → S b ∧ b ≠ ga) (hdis : ∀ i j, i < ts.length → j < ts.length → i ≠ j → ∀ b, Ss i b → ¬ Ss j b)
      (hks : ∀ i, (hi : i < ts.length) → OtIn w (Ss i) (vs i) ts[i]) : OtIn w S (.agg #[.int .i64 k, .string nm, .int .i64 n, .slice A ts.length ac]) (.mk k n nm ts)

theorem OtIn.keep {w w' : World} {S : Nat → Prop} {v : Value} {t : Ot} (h : OtIn w S v t) (hk : ∀ b, S b → b < w.heap.size → w'.heap[b]? = w.heap[b]?) : OtIn w' S v t := by
  induction h with
  | mk ga vs Ss hnm hm hes hsub hdis _ ih =>
    refine .mk ga vs Ss hnm hm (hes.imp id fun ⟨h1, h2, h3⟩ => ⟨h1, h2, h3.keep (hk _ h2 h3.lt)⟩) hsub hdis fun i hi => ih i hi fun b hb => hk b (hsub i hi b hb).1
theorem OtIn.wide {w : World} {S S' : Nat → Prop} {v : Value} {t : Ot} (h : OtIn w S v t) (hS : ∀ b, S b → S' b) : OtIn w S' v t := by
  cases h with
  | mk ga vs Ss hnm hm hes hsub hdis hks =>
    exact .mk ga vs Ss hnm hm (hes.imp id fun ⟨h1, h2, h3⟩ => ⟨h1, hS _ h2, h3⟩) (fun i hi b hb => ⟨hS _ (hsub i hi b hb).1, (hsub i hi b hb).2⟩) hdis hks
theorem OtIn.at {w : World} {S : Nat → Prop} {v : Value} {t : Ot} (h : OtIn w S v t) (B : Nat) (hB : ∀ b, S b → b < w.heap.size → b < B) : OtAt w B v t := by
  induction h with
  | @mk S k n nm ts A ac ga vs Ss hnm hm hes hsub hdis _ ih =>
    refine .mk vs hnm hm ?_ fun i hi => ih i hi fun b hb => hB b (hsub i hi b hb).1
    · rcases hes with rfl | ⟨rfl, h2, h3⟩
      · exact fun i hi => absurd hi (by simp)
      · exact h3.at _ (hB _ h2 h3.lt)
theorem OtIn.here {w : World} {S : Nat → Prop} {v : Value} {t : Ot} (h : OtIn w S v t) : OtAt w w.heap.size v t := h.at _ fun _ _ h => h

/-- The slice (A, length, c) reads as the list of trees; its blocks are all in S. -/
def OtsIn (w : World) (S : Nat → Prop) (A : Option Addr) (ts : List Ot) : Prop :=
  ts.length ≤ maxLen ∧ ∃ (ga : Nat) (vs : Nat → Value) (Ss : Nat → Nat → Prop), (ts = [] ∨ A = some ⟨ga, 0, none⟩ ∧ S ga ∧ ElemRow 4 26 w ga ts.length vs) ∧
    (∀ i, i < ts.length → ∀ b, Ss i b → S b ∧ b ≠ ga) ∧ (∀ i j, i < ts.length → j < ts.length → i ≠ j → ∀ b, Ss i b → ¬ Ss j b) ∧ ∀ i, (hi : i < ts.length) → OtIn w (Ss i) (vs i) ts[i]
theorem OtsIn.at {w : World} {S : Nat → Prop} {A : Option Addr} {ts : List Ot} (h : OtsIn w S A ts) (B : Nat) (hB : ∀ b, S b → b < w.heap.size → b < B) : OtsAt w B A ts := by
  obtain ⟨h0, ga, vs, Ss, h1, h2, h3, h4⟩ := h
  refine ⟨h0, vs, ?_, fun i hi => (h4 i hi).at B fun b hb => hB b (h2 i hi b hb).1⟩
  rcases h1 with rfl | ⟨rfl, h5, h6⟩
  · exact fun i hi => absurd hi (by simp)
  · exact h6.at _ (hB _ h5 h6.lt)
theorem OtsIn.here {w : World} {S : Nat → Prop} {A : Option Addr} {ts : List Ot} (h : OtsIn w S A ts) : OtsAt w w.heap.size A ts := h.at _ fun _ _ h => h
theorem OtsIn.keep {w w' : World} {S : Nat → Prop} {A : Option Addr} {ts : List Ot} (h : OtsIn w S A ts) (hk : ∀ b, S b → b < w.heap.size → w'.heap[b]? = w.heap[b]?) : OtsIn w' S A ts := by
  obtain ⟨h0, ga, vs, Ss, h1, h2, h3, h4⟩ := h
  exact ⟨h0, ga, vs, Ss, h1.imp id fun ⟨a, b, c⟩ => ⟨a, b, c.keep (hk _ b c.lt)⟩, h2, h3, fun i hi => (h4 i hi).keep fun b hb => hk b (h2 i hi b hb).1⟩

/-- A tree of its parts. -/
theorem OtIn.of {w : World} {S Sa : Nat → Prop} {A : Option Addr} {ac : Nat} {t : Ot} (hnm : t.name.size ≤ maxLen) (ha : OtsIn w Sa A t.args) (hs : ∀ b, Sa b → S b) :
    OtIn w S (.agg #[.int .i64 t.kind, .string t.name, .int .i64 t.num, .slice A t.args.length ac]) t := by
  obtain ⟨h0, ga, vs, Ss, h1, h2, h3, h4⟩ := ha
  cases t with
  | mk k n nm ts =>
    simp only [Ot.args, Ot.kind, Ot.num, Ot.name] at *
    exact .mk ga vs Ss hnm h0 (h1.imp id fun ⟨a, b, c⟩ => ⟨a, hs _ b, c⟩) (fun i hi b hb => ⟨hs _ (h2 i hi b hb).1, (h2 i hi b hb).2⟩) h3 h4
theorem OtIn.open {w : World} {S : Nat → Prop} {v : Value} {t : Ot} (h : OtIn w S v t) :
    ∃ A ac, v = .agg #[.int .i64 t.kind, .string t.name, .int .i64 t.num, .slice A t.args.length ac] ∧ t.name.size ≤ maxLen ∧ OtsIn w S A t.args := by
  cases h with
  | mk ga vs Ss hnm hm hes hsub hdis hks =>
    exact ⟨_, _, rfl, hnm, hm, ga, vs, Ss, hes, hsub, hdis, hks⟩

end Go.Proofs.YtlmbnefoobameaaGreatDoor
end

section
namespace Go.Proofs.YtlmbnefoobameaaGreatDoor.O
open Go.RowKit

theorem pl_held : Tryz.prog.stoodInHeld 77 = false := by kernel_rfl
theorem pl_fields : (Tryz.prog.fieldsOf 77).toList.map (fun f => (f.name, f.type, f.offset)) = [("first", 75, 0), ("count", 3, 1)] := by kernel_rfl
theorem pl_struct : Tryz.prog.underlying 77 = some (.struct (Tryz.prog.fieldsOf 77)) := by kernel_rfl
theorem pl_size : (Tryz.prog.info? 26).map (fun i => i.size) = some 4 := by kernel_rfl

theorem pl_fields2 : ∃ f0 f1 : Field, (Tryz.prog.fieldsOf 77).toList = [f0, f1] ∧ f0.name = "first" ∧ f0.type = 75 ∧ f0.offset = 0 ∧ f1.name = "count" ∧ f1.type = 3 ∧ f1.offset = 1 := by
  have h := pl_fields
  generalize (Tryz.prog.fieldsOf 77).toList = l at h
  have hlen : l.length = 2 := by simpa using congrArg List.length h
  match l, hlen with
  | [f0, f1], _ =>
    simp at h
    exact ⟨f0, f1, rfl, h.1.1, h.1.2.1, h.1.2.2, h.2.1, h.2.2.1, h.2.2.2⟩

theorem run_pl_part0 (w : World) (a b : Value) : (part 75 #[a, b] 0).run Tryz.prog w = .ok a w := by
  simp [part, run_isAgg_plain w 75 _ Tryz.underlying75 rfl, Result.andThen]
theorem run_pl_part1 (w : World) (a b : Value) : (part 3 #[a, b] 1).run Tryz.prog w = .ok b w := by
  simp [part, run_isAgg_plain w 3 _ Tryz.underlying3 rfl, Result.andThen]

theorem run_sizeOf_ty (w : World) : ∃ n, n ≠ 0 ∧ (sizeOf 26).run Tryz.prog w = .ok n w := by
  have h := pl_size
  cases hi : Tryz.prog.info? 26 with
  | none => rw [hi] at h; cases h
  | some i =>
    rw [hi] at h
    simp at h
    exact ⟨i.size, by omega, by simp [sizeOf, typeInfo, hi, Result.andThen]⟩

theorem run_pl_eq (w : World) (d : Nat) (p q : Option Addr) (m n : Int) (r : Bool) (hp : (Op.equalIn (d + 1) 75 (.pointer p) (.pointer q)).run Tryz.prog w = .ok r w) :
    (Op.equalIn (d + 2) 77 (.agg #[.pointer p, .int .i64 m]) (.agg #[.pointer q, .int .i64 n])).run Tryz.prog w = .ok (r && m == n) w := by
  rw [run_equalIn_struct w (d + 1) _ _ _ pl_struct pl_held]
  obtain ⟨f0, f1, hl, n0, t0, o0, n1, t1, o1⟩ := pl_fields2
  rw [hl]
  have he := run_equalIn_int (P := Tryz.prog) w d 3 .i64 _ m n Tryz.underlying3
  by_cases hmn : m = n
  · subst hmn
    cases r <;> simp [Op.eqFields, n0, t0, o0, n1, t1, o1, run_pl_part0, run_pl_part1, hp, he, Result.andThen]
  · have hb : (m == n) = false := by simp [hmn]
    cases r <;> simp [Op.eqFields, n0, t0, o0, n1, t1, o1, run_pl_part0, run_pl_part1, hp, he, Result.andThen, hb]

theorem run_ptr_nil (w : World) (d : Nat) : (Op.equalIn (d + 1) 75 (.pointer none) (.pointer none)).run Tryz.prog w = .ok true w := by
  simp [Op.equalIn, run_underlying Tryz.underlying75, Result.andThen]
theorem run_ptr_nil1 (w : World) (d : Nat) (a : Addr) : (Op.equalIn (d + 1) 75 (.pointer none) (.pointer (some a))).run Tryz.prog w = .ok false w := by
  simp [Op.equalIn, run_underlying Tryz.underlying75, Result.andThen]
theorem run_ptr_nil2 (w : World) (d : Nat) (a : Addr) : (Op.equalIn (d + 1) 75 (.pointer (some a)) (.pointer none)).run Tryz.prog w = .ok false w := by
  simp [Op.equalIn, run_underlying Tryz.underlying75, Result.andThen]
theorem run_ptr_same (w : World) (d : Nat) (a : Addr) : (Op.equalIn (d + 1) 75 (.pointer (some a)) (.pointer (some a))).run Tryz.prog w = .ok true w := by
  obtain ⟨n, h0, h1⟩ := run_sizeOf_ty w
  simp [Op.equalIn, run_underlying Tryz.underlying75, Result.andThen, h0, h1, run_sameAddr_same]
theorem run_ptr_other (w : World) (d : Nat) {a b : Addr} {ca cb : Array Value} {ta tb : TypeId} (hne : a ≠ b) (ha : w.heap[a.block]? = some (.cells ca ta (0, 0))) (hb : w.heap[b.block]? = some (.cells cb tb (0, 0))) : (Op.equalIn (d + 1) 75 (.pointer (some a)) (.pointer (some b))).run Tryz.prog w = .ok false w := by
  obtain ⟨n, h0, h1⟩ := run_sizeOf_ty w
  simp [Op.equalIn, run_underlying Tryz.underlying75, Result.andThen, h0, h1, run_sameAddr_other w hne ha hb]

theorem pl_eq_same (w : World) (d : Nat) (k : Pl) : (Op.equalIn (d + 2) 77 (plVal k) (plVal k)).run Tryz.prog w = .ok true w := by
  cases k with
  | none => simpa [plVal] using run_pl_eq w d none none 0 0 true (run_ptr_nil w d)
  | some p => simpa [plVal] using run_pl_eq w d (some ⟨p.1, 0, none⟩) (some ⟨p.1, 0, none⟩) p.2 p.2 true (run_ptr_same w d _)
theorem pl_eq_other {w1 : World} {B mb : Nat} (w : World) (d : Nat) (k k' : Pl) (hw : PlWd w1 B mb w) (hk : PlOk w1 B mb k) (hk' : PlOk w1 B mb k') (hne : k ≠ k') : (Op.equalIn (d + 2) 77 (plVal k) (plVal k')).run Tryz.prog w = .ok false w := by
  match k, k', hk, hk', hne with
  | none, none, _, _, h => exact absurd rfl h
  | none, some (g, n), _, _, _ => simpa [plVal] using run_pl_eq w d none (some ⟨g, 0, none⟩) 0 n false (run_ptr_nil1 w d _)
  | some (g, n), none, _, _, _ => simpa [plVal] using run_pl_eq w d (some ⟨g, 0, none⟩) none n 0 false (run_ptr_nil2 w d _)
  | some (g, n), some (g', n'), hk, hk', hne =>
    by_cases hg : g = g'
    · subst hg
      have hn : ((n : Int) == (n' : Int)) = false := by
        rw [beq_eq_false_iff_ne]
        intro e
        exact hne (by rw [show n = n' by omega])
      simpa [plVal, hn] using run_pl_eq w d (some ⟨g, 0, none⟩) (some ⟨g, 0, none⟩) n n' true (run_ptr_same w d _)
    · obtain ⟨b1, b2, cs, t, b3⟩ := hk g n rfl
      obtain ⟨c1, c2, cs', t', c3⟩ := hk' g' n' rfl
      simpa [plVal] using run_pl_eq w d (some ⟨g, 0, none⟩) (some ⟨g', 0, none⟩) n n' false (run_ptr_other w d (a := ⟨g, 0, none⟩) (b := ⟨g', 0, none⟩) (fun e => hg (by injection e)) ((hw g b1 b2).trans b3) ((hw g' c1 c2).trans c3))

theorem pl_check (w : World) (em : Bool) (n : Nat) (k : Pl) : (Instr.checkKey em (n + 2) 77 (plVal k)).run Tryz.prog w = .ok () w := by
  have h2 : ∀ a b : Value, (∃ p m, a = .pointer p ∧ b = .int .i64 m) → (Instr.checkKey em (n + 2) 77 (.agg #[a, b])).run Tryz.prog w = .ok () w := by
    rintro a b ⟨p, m, rfl, rfl⟩
    obtain ⟨f0, f1, hl, n0, t0, o0, n1, t1, o1⟩ := pl_fields2
    have c0 : (Instr.checkKey em (n + 1) 75 (.pointer p)).run Tryz.prog w = .ok () w := by simp [Instr.checkKey, run_underlying Tryz.underlying75, Result.andThen]
    have c1 : (Instr.checkKey em (n + 1) 3 (.int .i64 m)).run Tryz.prog w = .ok () w := by simp [Instr.checkKey, run_underlying Tryz.underlying3, Result.andThen]
    unfold Instr.checkKey
    simp only [Sem.run_bind, run_underlying pl_struct, Result.andThen_ok]
    rw [← Array.forIn_toList, hl]
    simp [n0, t0, o0, n1, t1, o1, run_pl_part0, run_pl_part1, c0, c1, Result.andThen]
  match k with
  | none => exact h2 _ _ ⟨_, _, rfl, rfl⟩
  | some (g, m) => exact h2 _ _ ⟨_, _, rfl, rfl⟩

/-- Places as keys. -/
theorem plKit (w1 : World) (B mb : Nat) : KeyKit Tryz.prog 77 plVal (PlWd w1 B mb) (PlOk w1 B mb) where
  find := fun w k es => findKey_wide pl_struct rfl w _ es
  check := fun w em k => pl_check w em 9998 k
  same := fun w k => pl_eq_same w 9998 k
  other := fun w k k' hw hk hk' hne => pl_eq_other w 9998 k k' hw hk hk' hne
  stays := fun w k => by
    match k with
    | none => exact stays_agg w _ (by simp [Instr.sameBits])
    | some (g, n) => exact stays_agg w _ (by simp [Instr.sameBits])
  inj := plVal_inj

end Go.Proofs.YtlmbnefoobameaaGreatDoor.O
end

section
namespace Go.Proofs.YtlmbnefoobameaaGreatDoor
open Go.RowKit

end Go.Proofs.YtlmbnefoobameaaGreatDoor
end

section
namespace Go.Proofs.YtlmbnefoobameaaGreatDoor
open Go.RowKit

end Go.Proofs.YtlmbnefoobameaaGreatDoor

namespace Go.Proofs.YtlmbnefoobameaaGreatDoor
open Go.RowKit

theorem own_keep {w w' : World} {base k : Nat} {e : TypeId} {v : Value} {xs : List Value} (h : w.ownsRow base e 3 v k xs) (hk : ∀ g, v.ownBlock = some g → w'.heap[g]? = w.heap[g]?) : w'.ownsRow base e 3 v k xs := by
  refine ⟨h.1, ?_⟩
  rcases h.2 with h2 | ⟨g, cap, cur, h1, h2, h3, h4⟩
  · exact .inl h2
  · exact .inr ⟨g, cap, cur, h1, h2, (hk g (by rw [h1]; rfl)).trans h3, h4⟩

end Go.Proofs.YtlmbnefoobameaaGreatDoor
end

section
namespace Go.Proofs.YtlmbnefoobameaaGreatDoor
open Go.RowKit

/-- A new tree is handed back. -/
def NewOt (w : World) (t : Ot) (e : Ending) (w' : World) : Prop := ∃ v, e = .returned v ∧ OtIn w' (Span w.heap.size w'.heap.size) v t ∧ Below w.heap.size w w'
/-- A new list of trees is handed back. -/
def NewOts (w : World) (ts : List Ot) (e : Ending) (w' : World) : Prop := ∃ g c, e = .returned (.slice (some ⟨g, 0, none⟩) ts.length c) ∧ w.heap.size ≤ g ∧ OtsIn w' (Span w.heap.size w'.heap.size) (some ⟨g, 0, none⟩) ts ∧ Below w.heap.size w w'

theorem infoOptic : (Tryz.prog.info? 26).map (fun i => (i.zero, i.size, i.bytes)) = some (some (.agg #[.int .i64 0, .string ⟨#[]⟩, .int .i64 0, .slice none 0 0]), 4, 56) := by kernel_rfl

/-- Row g of n elements; those below k are made, each in blocks of its own. -/
def OFilling (w : World) (lo g n k : Nat) (ts : List Ot) : Prop :=
  ∃ (cs : Array Value) (vs : Nat → Value) (bd : Nat → Nat), Whole1 w g 26 cs ∧ cs.size = n * 4 ∧ (∀ i, i < k → ∀ j, j < 4 → (partAt (vs i) j).isSome = true ∧ cs[i * 4 + j]? = partAt (vs i) j) ∧
    lo ≤ g ∧ g < bd 0 ∧ (∀ i, i < k → bd i ≤ bd (i + 1)) ∧ bd k ≤ w.heap.size ∧ ∀ i, (hi : i < ts.length) → i < k → OtIn w (Span (bd i) (bd (i + 1))) (vs i) ts[i]

theorem OFilling.done {w : World} {lo g : Nat} {ts : List Ot} (h : OFilling w lo g ts.length ts.length ts) (hm : ts.length ≤ maxLen) : OtsIn w (Span lo w.heap.size) (some ⟨g, 0, none⟩) ts := by
  obtain ⟨cs, vs, bd, h1, h2, h3, h4, h5, h6, h7, h8⟩ := h
  refine ⟨hm, g, vs, fun i => Span (bd i) (bd (i + 1)), .inr ⟨rfl, ⟨h4, h1.lt⟩, cs, h1, h3⟩, fun i hi b hb => ?_, fun i j hi hj hne b hb hb' => ?_, fun i hi => h8 i hi hi⟩
  · have a := bd_mono bd _ h6 0 i (by omega) (by omega)
    have c := bd_mono bd _ h6 (i + 1) ts.length (by omega) (Nat.le_refl _)
    have := hb.1
    have := hb.2
    exact ⟨⟨by omega, by omega⟩, by omega⟩
  · have := hb.1
    have := hb.2
    have := hb'.1
    have := hb'.2
    rcases Nat.lt_or_gt_of_ne hne with hlt | hlt
    · have a := bd_mono bd _ h6 (i + 1) j (by omega) (by omega)
      omega
    · have a := bd_mono bd _ h6 (j + 1) i (by omega) (by omega)
      omega
theorem OFilling.below {w w' : World} {lo g n k : Nat} {ts : List Ot} (h : OFilling w lo g n k ts) (hb : Below w.heap.size w w') : OFilling w' lo g n k ts := by
  obtain ⟨cs, vs, bd, h1, h2, h3, h4, h5, h6, h7, h8⟩ := h
  refine ⟨cs, vs, bd, h1.below hb h1.lt, h2, h3, h4, h5, h6, Nat.le_trans h7 hb.size, fun i hi hk => (h8 i hi hk).keep fun b hB _ => hb.block b ?_⟩
  have := bd_mono bd k h6 (i + 1) k (by omega) (Nat.le_refl _)
  have := hB.2
  omega
/-- The next element is stored. -/
theorem OFilling.step {w w' : World} {lo g n k : Nat} {ts : List Ot} {a b c d : Value} (h : OFilling w lo g n k ts) (hb : Below w.heap.size w w') (hk : k < n) (hkt : k < ts.length) (hv : OtIn w' (Span w.heap.size w'.heap.size) (.agg #[a, b, c, d]) ts[k]) :
    OFilling ((((w'.setCell ⟨g, k * 4, none⟩ a).setCell ⟨g, k * 4 + 1, none⟩ b).setCell ⟨g, k * 4 + 2, none⟩ c).setCell ⟨g, k * 4 + 3, none⟩ d) lo g n (k + 1) ts := by
  obtain ⟨cs, vs, bd, h1, h2, h3, h4, h5, h6, h7, h8⟩ := h
  have hlt := h1.lt
  have hw := ((((h1.below hb hlt).set (k * 4) a).set (k * 4 + 1) b).set (k * 4 + 2) c).set (k * 4 + 3) d
  have hsz := hb.size
  have hk' : ∀ q, q ≠ g → ((((w'.setCell ⟨g, k * 4, none⟩ a).setCell ⟨g, k * 4 + 1, none⟩ b).setCell ⟨g, k * 4 + 2, none⟩ c).setCell ⟨g, k * 4 + 3, none⟩ d).heap[q]? = w'.heap[q]? := fun q hq => by
    rw [Below.heap_setCell _ _ _ _ hq, Below.heap_setCell _ _ _ _ hq, Below.heap_setCell _ _ _ _ hq, Below.heap_setCell _ _ _ _ hq]
  have hS : ((((w'.setCell ⟨g, k * 4, none⟩ a).setCell ⟨g, k * 4 + 1, none⟩ b).setCell ⟨g, k * 4 + 2, none⟩ c).setCell ⟨g, k * 4 + 3, none⟩ d).heap.size = w'.heap.size := by simp [World.setCell]
  generalize (((w'.setCell ⟨g, k * 4, none⟩ a).setCell ⟨g, k * 4 + 1, none⟩ b).setCell ⟨g, k * 4 + 2, none⟩ c).setCell ⟨g, k * 4 + 3, none⟩ d = W at *
  have hg0 : ∀ i, i ≤ k → g < bd i := fun i hi => Nat.lt_of_lt_of_le h5 (bd_mono bd k h6 0 i (by omega) hi)
  refine ⟨_, fun j => if j = k then .agg #[a, b, c, d] else vs j, fun j => if j ≤ k then bd j else w'.heap.size, hw, by simp [h2], fun i hi j hj => ?_, h4, by simpa using h5, fun i hi => ?_, ?_, fun i hi hik => ?_⟩
  · dsimp only
    have hb3 : k * 4 + 3 < cs.size := by omega
    by_cases ek : i = k
    · subst ek
      rw [if_pos rfl]
      simp only [Array.getElem?_setIfInBounds, Array.size_setIfInBounds]
      have : j = 0 ∨ j = 1 ∨ j = 2 ∨ j = 3 := by omega
      rcases this with rfl | rfl | rfl | rfl
      · simp [partAt]; omega
      · simp [partAt]; omega
      · simp [partAt]; omega
      · simp [partAt]; omega
    · rw [if_neg ek]
      have hh := h3 i (by omega) j hj
      refine ⟨hh.1, ?_⟩
      rw [← hh.2]
      simp only [Array.getElem?_setIfInBounds, Array.size_setIfInBounds]
      rw [if_neg (by omega), if_neg (by omega), if_neg (by omega), if_neg (by omega)]
  · dsimp only
    by_cases ek : i = k
    · subst ek
      rw [if_pos (Nat.le_refl _), if_neg (by omega)]
      omega
    · rw [if_pos (by omega), if_pos (by omega)]
      exact h6 i (by omega)
  · dsimp only
    rw [if_neg (by omega), hS]
    exact Nat.le_refl _
  · dsimp only
    by_cases ek : i = k
    · subst ek
      rw [if_pos rfl, if_pos (Nat.le_refl _), if_neg (by omega)]
      refine (hv.wide fun q hq => ⟨by have := hq.1; omega, hq.2⟩).keep fun q hq _ => hk' q ?_
      have := hq.1
      have := hg0 i (Nat.le_refl _)
      omega
    · rw [if_neg ek, if_pos (by omega), if_pos (by omega)]
      refine (h8 i hi (by omega)).keep fun q hq _ => ?_
      have e1 := hq.1
      have e2 := hq.2
      have e3 := hg0 i (by omega)
      have e4 := bd_mono bd k h6 (i + 1) k (by omega) (Nat.le_refl _)
      rw [hk' q (by omega)]
      exact hb.block q (by omega)

theorem OFilling.cells {w : World} {lo g n k : Nat} {ts : List Ot} (h : OFilling w lo g n k ts) (i : Nat) (hi : i < n) : ∃ x y z u, w.cell? ⟨g, i * 4, none⟩ = some x ∧ w.cell? ⟨g, i * 4 + 1, none⟩ = some y ∧ w.cell? ⟨g, i * 4 + 2, none⟩ = some z ∧ w.cell? ⟨g, i * 4 + 3, none⟩ = some u ∧
    w.frozen? ⟨g, i * 4, none⟩ = false ∧ w.frozen? ⟨g, i * 4 + 1, none⟩ = false ∧ w.frozen? ⟨g, i * 4 + 2, none⟩ = false ∧ w.frozen? ⟨g, i * 4 + 3, none⟩ = false := by
  obtain ⟨cs, vs, bd, h1, h2, _⟩ := h
  refine ⟨cs[i * 4]'(by omega), cs[i * 4 + 1]'(by omega), cs[i * 4 + 2]'(by omega), cs[i * 4 + 3]'(by omega), ?_, ?_, ?_, ?_, h1.free _, h1.free _, h1.free _, h1.free _⟩
  all_goals rw [h1.cell, Array.getElem?_eq_getElem]
theorem OFilling.start (w : World) (cs : Array Value) (n : Nat) (ts : List Ot) (hs : cs.size = n * 4) : OFilling (w.alloc (.cells cs 26)) w.heap.size w.heap.size n 0 ts :=
  ⟨cs, fun _ => .bool false, fun _ => w.heap.size + 1, Whole1.new _ _ _, hs, fun i hi => absurd hi (by omega), Nat.le_refl _, Nat.lt_succ_self _, fun i hi => absurd hi (by omega), by simp, fun i _ hi => absurd hi (by omega)⟩

end Go.Proofs.YtlmbnefoobameaaGreatDoor
end

section
namespace Go.Proofs.YtlmbnefoobameaaGreatDoor
open Go.RowKit

end Go.Proofs.YtlmbnefoobameaaGreatDoor
end

section
namespace Go.Proofs.YtlmbnefoobameaaGreatDoor
open Go.RowKit

mutual
/-- The number of nodes. -/
def sizeOt : Ot → Nat | .mk _ _ _ ts => 1 + sizeOts ts
def sizeOts : List Ot → Nat | [] => 0 | t :: r => sizeOt t + sizeOts r
end
theorem sizeOt_eq (t : Ot) : sizeOt t = 1 + sizeOts t.args := by cases t; rw [sizeOt]; rfl
theorem sizeOts_append : ∀ (a b : List Ot), sizeOts (a ++ b) = sizeOts a + sizeOts b
  | [], b => by simp [sizeOts]
  | t :: a, b => by
    rw [List.cons_append, sizeOts, sizeOts, sizeOts_append a b]
    omega
theorem sizeOts_take (ts : List Ot) (k : Nat) (h : k < ts.length) : sizeOts (ts.take (k + 1)) = sizeOts (ts.take k) + sizeOt ts[k] := by
  rw [List.take_succ_eq_append_getElem h, sizeOts_append, sizeOts, sizeOts]
  omega
theorem sizeOts_le (ts : List Ot) (k : Nat) : sizeOts (ts.take k) ≤ sizeOts ts := by
  have h := sizeOts_append (ts.take k) (ts.drop k)
  rw [List.take_append_drop] at h
  omega
mutual
theorem size_le_szO : ∀ (t : Ot), sizeOt t ≤ szOt t + 1
  | .mk _ _ _ ts => by
    rw [sizeOt, szOt]
    have := sizes_le_szOs ts
    omega
theorem sizes_le_szOs : ∀ (ts : List Ot), sizeOts ts ≤ szOts ts
  | [] => Nat.le_refl _
  | t :: r => by
    rw [sizeOts, szOts]
    have := size_le_szO t
    have := sizes_le_szOs r
    omega
end
mutual
/-- The depth. -/
def depthOt : Ot → Nat | .mk _ _ _ ts => depthOts ts + 1
def depthOts : List Ot → Nat | [] => 0 | t :: r => max (depthOt t) (depthOts r)
end
theorem depthOt_eq (t : Ot) : depthOt t = depthOts t.args + 1 := by cases t; rw [depthOt]; rfl
theorem depthOts_append : ∀ (a b : List Ot), depthOts (a ++ b) = max (depthOts a) (depthOts b)
  | [], b => by simp [depthOts]
  | t :: a, b => by
    rw [List.cons_append, depthOts, depthOts, depthOts_append a b]
    omega
theorem depthOts_take (ts : List Ot) (k : Nat) (h : k < ts.length) : depthOts (ts.take (k + 1)) = max (depthOts (ts.take k)) (depthOt ts[k]) := by
  rw [List.take_succ_eq_append_getElem h, depthOts_append, depthOts, depthOts]
  omega
mutual
theorem depth_le_sizeO : ∀ (t : Ot), depthOt t ≤ sizeOt t
  | .mk _ _ _ ts => by
    rw [depthOt, sizeOt]
    have := depths_le_sizesO ts
    omega
theorem depths_le_sizesO : ∀ (ts : List Ot), depthOts ts ≤ sizeOts ts
  | [] => Nat.le_refl _
  | t :: r => by
    rw [depthOts, sizeOts]
    have := depth_le_sizeO t
    have := depths_le_sizesO r
    omega
end
def SizeOOne (f : Nat) (t : Ot) : Prop := ∀ (v : Value) (w : World), OtAt w w.heap.size v t → sizeOt t ≤ 2000000 → Calls Tryz.prog f #[v] w (IntBelow (sizeOt t) w)

def DepthOOne (f : Nat) (t : Ot) : Prop := ∀ (v : Value) (w : World), OtAt w w.heap.size v t → sizeOt t ≤ 2000000 → Calls Tryz.prog f #[v] w (IntBelow (depthOt t) w)

set_option maxHeartbeats 1000000 in
theorem specDepthO_of (k0 n0 : Int) (nm : ByteArray) (ts : List Ot) (hall : ∀ i, (h : i < ts.length) → DepthOOne 21 ts[i]) : DepthOOne 21 (.mk k0 n0 nm ts) := by
  intro v w hv hsz
  have hse := Lib.hid (depthOt_eq (.mk k0 n0 nm ts))
  have hse2 : sizeOts ts ≤ 2000000 := by have := sizeOt_eq (.mk k0 n0 nm ts); simp only [Ot.args] at this; omega
  obtain ⟨A, ac, rfl, _, ha⟩ := hv.open
  simp only [Ot.kind, Ot.num, Ot.name, Ot.args] at *
  have hm := ha.1
  unfold maxLen at hm
  have HALL := Lib.hid hall
  clear hall hv
  obtain ⟨hb0, p0, hs0⟩ := boxes1 w 26 #[.int .i64 k0, .string nm, .int .i64 n0, .slice A ts.length ac]
  have ha0 := ha.up hb0
  have HZ := Lib.hid hs0
  clear ha hs0
  go_enter Tryz.func21, Tryz.ntmps21
  go_wp2
  generalize w.alloc (.cells #[.int .i64 k0, .string nm, .int .i64 n0, .slice A ts.length ac] 26) = w0 at *
  have hpl := p0.lt
  go_loopw [3, 4] (fun n i wr => ∃ k d : Nat, k ≤ ts.length ∧ i = .int .i64 k ∧ n = .int .i64 (d : Int) ∧ Hid (d = depthOts (ts.take k)) ∧ d ≤ 2000000 ∧ Below w0.heap.size w0 wr) (fun _ i _ => ts.length - (intOf i).toNat)
  case atStart => exact ⟨0, 0, Nat.zero_le _, rfl, rfl, Lib.hid (by simp [depthOts]), by omega, Below.refl _ _⟩
  case round =>
    obtain ⟨k, d, hk, rfl, rfl, hd, hdl, hb⟩ := hrel
    have p1 := p0.below hb hpl
    have c2 : wr.cell? ⟨w.heap.size, 3, none⟩ = some (.slice A ts.length ac) := p1.cell 3
    by_cases hlt : k < ts.length
    · obtain ⟨b, off, A1, ac1, rfl, hbl, q0, q1, q2, q3, ht⟩ := (ha0.below hb).elem k hlt
      have hst := Lib.hid (depthOts_take ts k hlt)
      have hle := sizeOts_le ts (k + 1)
      have hst2 := Lib.hid (sizeOts_take ts k hlt)
      have hb3 : sizeOt ts[k] ≤ 2000000 := by have := hst2.out; omega
      have hb4 := depth_le_sizeO ts[k]
      have HT := Lib.hid (HALL.out k hlt _ wr (ht.more hb.size) hb3)
      clear ht p1
      go_wp2_with fail
      refine HT.out.mono ?_
      rintro e w1 ⟨rfl, hb1⟩
      go_wp2_with fail
      refine (l1Max_any (d : Int) (depthOt ts[k] : Int) w1).mono ?_
      rintro e w2 ⟨rfl, rfl⟩
      rw [show max (d : Int) (depthOt ts[k] : Int) = ((max d (depthOt ts[k]) : Nat) : Int) by omega]
      go_wp2
      go_roundw
      case rel => exact ⟨k + 1, max d (depthOt ts[k]), by omega, by go_num, rfl, Lib.hid (by rw [hst.out, hd.out]), by omega, hb.trans (hb1.mono hb.size)⟩
      case measure => simp [intOf]; omega
    · have hke : k = ts.length := by omega
      subst hke
      rw [List.take_length] at hd
      go_wp2
      go_ret
      exact ⟨by rw [hse.out, ← hd.out]; rfl, hb0.trans (hb.mono hb0.size)⟩

theorem specDepthO_any (t : Ot) : DepthOOne 21 t := by
  induction t using Ot.ind with
  | h k n nm ts ih => exact specDepthO_of k n nm ts ih

def LeftOOne (f : Nat) (t : Ot) : Prop := ∀ (v : Value) (left : Int) (w : World), OtAt w w.heap.size v t → 0 ≤ left → left ≤ 1000000 → Calls Tryz.prog f #[v, .int .i64 left] w (IntBelow (leftOf left (sizeOt t)) w)

set_option maxHeartbeats 1000000 in
theorem specLeftO_of (k0 n0 : Int) (nm : ByteArray) (ts : List Ot) (hall : ∀ i, (h : i < ts.length) → LeftOOne 20 ts[i]) : LeftOOne 20 (.mk k0 n0 nm ts) := by
  intro v left w hv h0 h1
  have hse := Lib.hid (sizeOt_eq (.mk k0 n0 nm ts))
  obtain ⟨A, ac, rfl, _, ha⟩ := hv.open
  simp only [Ot.kind, Ot.num, Ot.name, Ot.args] at *
  have hm := ha.1
  unfold maxLen at hm
  have HALL := Lib.hid hall
  clear hall hv
  obtain ⟨hb0, p0, hs0⟩ := boxes1 w 26 #[.int .i64 k0, .string nm, .int .i64 n0, .slice A ts.length ac]
  have ha0 := ha.up hb0
  have HZ := Lib.hid hs0
  clear ha hs0
  go_enter Tryz.func20, Tryz.ntmps20
  go_wp2
  generalize w.alloc (.cells #[.int .i64 k0, .string nm, .int .i64 n0, .slice A ts.length ac] 26) = w0 at *
  have hpl := p0.lt
  go_loopw [1, 5] (fun n i wr => ∃ (k : Nat) (x : Int), k ≤ ts.length ∧ i = .int .i64 k ∧ n = .int .i64 x ∧ Hid (x = leftOf left (1 + sizeOts (ts.take k))) ∧ x ≤ 1000000 ∧ -1 ≤ x ∧ Below w0.heap.size w0 wr) (fun _ i _ => ts.length - (intOf i).toNat)
  case atStart => exact ⟨0, left - 1, Nat.zero_le _, rfl, rfl, Lib.hid (by simp only [List.take_zero, sizeOts, leftOf]; split <;> omega), by omega, by omega, Below.refl _ _⟩
  case round =>
    obtain ⟨k, x, hk, rfl, rfl, hx, hxl, hxm, hb⟩ := hrel
    have p1 := p0.below hb hpl
    have c2 : wr.cell? ⟨w.heap.size, 3, none⟩ = some (.slice A ts.length ac) := p1.cell 3
    by_cases hlt : k < ts.length
    · by_cases hx0 : 0 ≤ x
      · obtain ⟨b, off, A1, ac1, rfl, hbl, q0, q1, q2, q3, ht⟩ := (ha0.below hb).elem k hlt
        have hst2 := Lib.hid (sizeOts_take ts k hlt)
        have hdx : decide ((0 : Int) ≤ x) = true := by simp; omega
        have hlk : decide ((k : Int) < (ts.length : Int)) = true := by simp; omega
        have HT := Lib.hid (HALL.out k hlt _ x wr (ht.more hb.size) hx0 hxl)
        have hle := leftOf_le x (sizeOt ts[k]) hx0
        have hcs := leftOf_cases x (sizeOt ts[k])
        have hnx : Hid (leftOf x (sizeOt ts[k]) = leftOf left (1 + sizeOts (ts.take (k + 1)))) := Lib.hid (by
          have hxe := hx.out
          rw [hst2.out, hxe, leftOf_step _ _ _ (by rw [← hxe]; exact hx0), Nat.add_assoc])
        clear ht p1
        go_wp2_with fail
        refine HT.out.mono ?_
        rintro e w1 ⟨rfl, hb1⟩
        generalize leftOf x (sizeOt ts[k]) = y at *
        go_wp2
        go_roundw
        case rel => exact ⟨k + 1, y, by omega, by go_num, rfl, hnx, by omega, by omega, hb.trans (hb1.mono hb.size)⟩
        case measure => simp [intOf]; omega
      · have hxe : x = -1 := by omega
        have hr := Lib.hid (show leftOf left (sizeOt (.mk k0 n0 nm ts)) = -1 by
          rw [hse.out]
          have := hx.out
          exact leftOf_neg _ _ _ (by rw [← this]; exact hxe) (by have := sizeOts_le ts k; omega))
        subst hxe
        clear hx0
        go_wp2
        go_ret
        exact ⟨by rw [hr.out]; rfl, hb0.trans (hb.mono hb0.size)⟩
    · have hke : k = ts.length := by omega
      subst hke
      rw [List.take_length] at hx
      go_wp2
      go_ret
      exact ⟨by rw [hse.out, ← hx.out]; rfl, hb0.trans (hb.mono hb0.size)⟩

theorem specLeftO_any (t : Ot) : LeftOOne 20 t := by
  induction t using Ot.ind with
  | h k n nm ts ih => exact specLeftO_of k n nm ts ih


end Go.Proofs.YtlmbnefoobameaaGreatDoor
end
