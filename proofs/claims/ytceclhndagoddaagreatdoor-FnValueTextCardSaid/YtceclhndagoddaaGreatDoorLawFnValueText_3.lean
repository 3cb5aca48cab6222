/- Lemmas: VaIn, Sz, ToTy, Gather. -/
import Derived.Test.YtceclhndagoddaaGreatDoorLawFnValueText_2
import Derived.Test.YtceclhndagoddaaGreatDoorProg
import Derived.Test.YtceclhndagoddaaGreatDoorLawFnValueText_1
import Derived.Lib.AppendStr
import Derived.Laws.BytesArg
import Derived.Laws.IdiomStrings
import Derived.Outline

section
namespace Go.Proofs.YtceclhndagoddaaGreatDoor
open Go.RowKit

inductive Va where
  | mk (k n : Int) (nm : ByteArray) (ls : List ByteArray) (ts : List Va)

def Va.kind : Va → Int | .mk k _ _ _ _ => k
def Va.num : Va → Int | .mk _ n _ _ _ => n
def Va.name : Va → ByteArray | .mk _ _ nm _ _ => nm
def Va.labels : Va → List ByteArray | .mk _ _ _ ls _ => ls
def Va.args : Va → List Va | .mk _ _ _ _ ts => ts

theorem Va.ind {P : Va → Prop} (h : ∀ k n nm ls (ts : List Va), (∀ i, (hi : i < ts.length) → P ts[i]) → P (.mk k n nm ls ts)) (t : Va) : P t :=
  Va.rec (motive_1 := P) (motive_2 := fun ts => ∀ i, (hi : i < ts.length) → P ts[i]) h (fun i hi => absurd hi (Nat.not_lt_zero i))
    (fun a r ha hr i hi => match i, hi with | 0, _ => ha | i + 1, hi => hr i (Nat.lt_of_succ_lt_succ hi)) t

/-- The value reads as the tree; all that is read lies below block B. -/
inductive VaAt (w : World) (B : Nat) : Value → Va → Prop where
  | mk {k n : Int} {nm : ByteArray} {ls : List ByteArray} {ts : List Va} {L A : Option Addr} {lc ac : Nat} (vs : Nat → Value) (hnm : nm.size ≤ maxLen) (hn : ls.length ≤ maxLen) (hz : ∀ i, (h : i < ls.length) → ls[i].size ≤ maxLen) (hm : ts.length ≤ maxLen) (hls : StrsAt w B L ls) (hes : ElemsAt 5 w B A ts.length vs)
      (hks : ∀ i, (hi : i < ts.length) → VaAt w B (vs i) ts[i]) : VaAt w B (.agg #[.int .i64 k, .int .i64 n, .string nm, .slice L ls.length lc, .slice A ts.length ac]) (.mk k n nm ls ts)

theorem VaAt.keep {w w' : World} {B : Nat} {v : Value} {t : Va} (h : VaAt w B v t) (hk : ∀ p : Addr, p.block < B → w'.cell? p = w.cell? p) : VaAt w' B v t := by
  induction h with
  | mk vs hnm hn hz hm hls hes _ ih => exact .mk vs hnm hn hz hm (hls.keep hk) (hes.keep hk) ih
theorem VaAt.more {w : World} {B B' : Nat} {v : Value} {t : Va} (h : VaAt w B v t) (hB : B ≤ B') : VaAt w B' v t := by
  induction h with
  | mk vs hnm hn hz hm hls hes _ ih => exact .mk vs hnm hn hz hm (hls.more hB) (hes.more hB) ih
theorem VaAt.lift {w w' : World} {B : Nat} {v : Value} {t : Va} (h : VaAt w B v t) (hb : Below B w w') : VaAt w' B v t := h.keep fun _ hp => hb.cell hp
theorem VaAt.up {w w' : World} {v : Value} {t : Va} (h : VaAt w w.heap.size v t) (hb : Below w.heap.size w w') : VaAt w' w'.heap.size v t := (h.lift hb).more hb.size

/-- The slice (A, length, c) reads as the list of trees. -/
def VasAt (w : World) (B : Nat) (A : Option Addr) (ts : List Va) : Prop := ts.length ≤ maxLen ∧ ∃ vs : Nat → Value, ElemsAt 5 w B A ts.length vs ∧ ∀ i, (hi : i < ts.length) → VaAt w B (vs i) ts[i]
theorem VasAt.keep {w w' : World} {B : Nat} {A : Option Addr} {ts : List Va} (h : VasAt w B A ts) (hk : ∀ p : Addr, p.block < B → w'.cell? p = w.cell? p) : VasAt w' B A ts := by
  obtain ⟨h0, vs, h1, h2⟩ := h
  exact ⟨h0, vs, h1.keep hk, fun i hi => (h2 i hi).keep hk⟩
theorem VasAt.more {w : World} {B B' : Nat} {A : Option Addr} {ts : List Va} (h : VasAt w B A ts) (hB : B ≤ B') : VasAt w B' A ts := by
  obtain ⟨h0, vs, h1, h2⟩ := h
  exact ⟨h0, vs, h1.more hB, fun i hi => (h2 i hi).more hB⟩
theorem VasAt.below {w w' : World} {B : Nat} {A : Option Addr} {ts : List Va} (h : VasAt w B A ts) (hb : Below B w w') : VasAt w' B A ts := h.keep fun _ hp => hb.cell hp
theorem VasAt.up {w w' : World} {A : Option Addr} {ts : List Va} (h : VasAt w w.heap.size A ts) (hb : Below w.heap.size w w') : VasAt w' w'.heap.size A ts := (h.below hb).more hb.size

/-- What a value that reads as a tree looks like. -/
theorem VaAt.open {w : World} {B : Nat} {v : Value} {t : Va} (h : VaAt w B v t) : ∃ L lc A ac, v = .agg #[.int .i64 t.kind, .int .i64 t.num, .string t.name, .slice L t.labels.length lc, .slice A t.args.length ac] ∧ t.name.size ≤ maxLen ∧ t.labels.length ≤ maxLen ∧ (∀ i, (h : i < t.labels.length) → t.labels[i].size ≤ maxLen) ∧ StrsAt w B L t.labels ∧ VasAt w B A t.args := by
  cases h with
  | mk vs hnm hn hz hm hls hes hks => exact ⟨_, _, _, _, rfl, hnm, hn, hz, hls, hm, vs, hes, hks⟩
theorem VaAt.of {w : World} {B lc ac : Nat} {L A : Option Addr} {t : Va} (hnm : t.name.size ≤ maxLen) (hn : t.labels.length ≤ maxLen) (hz : ∀ i, (h : i < t.labels.length) → t.labels[i].size ≤ maxLen) (hl : StrsAt w B L t.labels) (ha : VasAt w B A t.args) : VaAt w B (.agg #[.int .i64 t.kind, .int .i64 t.num, .string t.name, .slice L t.labels.length lc, .slice A t.args.length ac]) t := by
  obtain ⟨h0, vs, h1, h2⟩ := ha
  cases t
  exact .mk vs hnm hn hz h0 hl h1 h2

/-- Element i of a list of trees: its three cells. -/
theorem VasAt.elem {w : World} {B : Nat} {A : Option Addr} {ts : List Va} (h : VasAt w B A ts) (i : Nat) (hi : i < ts.length) :
    ∃ b off L lc A' ac, A = some ⟨b, off, none⟩ ∧ b < B ∧ w.cell? ⟨b, off + i * 5, none⟩ = some (.int .i64 ts[i].kind) ∧ w.cell? ⟨b, off + i * 5 + 1, none⟩ = some (.int .i64 ts[i].num) ∧ w.cell? ⟨b, off + i * 5 + 2, none⟩ = some (.string ts[i].name) ∧
      w.cell? ⟨b, off + i * 5 + 3, none⟩ = some (.slice L ts[i].labels.length lc) ∧ w.cell? ⟨b, off + i * 5 + 4, none⟩ = some (.slice A' ts[i].args.length ac) ∧
      VaAt w B (.agg #[.int .i64 ts[i].kind, .int .i64 ts[i].num, .string ts[i].name, .slice L ts[i].labels.length lc, .slice A' ts[i].args.length ac]) ts[i] := by
  obtain ⟨h0, vs, h1, h2⟩ := h
  obtain ⟨b, off, e, hb, hc⟩ := h1 i hi
  have ht := h2 i hi
  obtain ⟨L, lc, A', ac, hv, _⟩ := ht.open
  rw [hv] at hc ht
  exact ⟨b, off, L, lc, A', ac, e, hb, hc 0 (by omega), hc 1 (by omega), hc 2 (by omega), hc 3 (by omega), hc 4 (by omega), ht⟩

mutual
/-- What the law counts of a tree: its labels, their letters, its parts. -/
def szVa : Va → Nat | .mk _ _ nm ls ts => nm.size + (ls.length + sumSizes ls) + szVas ts
def szVas : List Va → Nat | [] => 0 | t :: r => 1 + szVa t + szVas r
end
theorem szVas_append : ∀ (a b : List Va), szVas (a ++ b) = szVas a + szVas b
  | [], b => by simp [szVas]
  | t :: a, b => by
    rw [List.cons_append, szVas, szVas, szVas_append a b]
    omega
theorem szVas_take (ts : List Va) (k : Nat) (h : k < ts.length) : szVas (ts.take (k + 1)) = szVas (ts.take k) + 1 + szVa ts[k] := by
  rw [List.take_succ_eq_append_getElem h, szVas_append, szVas, szVas]
  omega
theorem szVas_len : ∀ (ts : List Va), ts.length ≤ szVas ts
  | [] => Nat.le_refl _
  | t :: r => by
    have := szVas_len r
    rw [szVas, List.length_cons]
    omega
theorem szVas_le (ts : List Va) (k : Nat) : szVas (ts.take k) + (ts.length - k) ≤ szVas ts := by
  have h := szVas_append (ts.take k) (ts.drop k)
  have h2 := szVas_len (ts.drop k)
  rw [List.take_append_drop] at h
  rw [List.length_drop] at h2
  omega
theorem szVa_part (ts : List Va) (k : Nat) (h : k < ts.length) : szVa ts[k] + 1 ≤ szVas ts := by
  have h1 := szVas_take ts k h
  have h2 := szVas_le ts (k + 1)
  omega
theorem szVa_eq (t : Va) : szVa t = t.name.size + (t.labels.length + sumSizes t.labels) + szVas t.args := by
  cases t
  rw [szVa]
  rfl

end Go.Proofs.YtceclhndagoddaaGreatDoor

namespace Go.Proofs.YtceclhndagoddaaGreatDoor
open Go.RowKit

/-- The value reads as the tree; its blocks are all in S, no two of its slices share one. -/
inductive VaIn (w : World) : (Nat → Prop) → Value → Va → Prop where
  | mk {S : Nat → Prop} {k n : Int} {nm : ByteArray} {ls : List ByteArray} {ts : List Va} {L A : Option Addr} {lc ac : Nat} (gl ga : Nat) (vs : Nat → Value) (Ss : Nat → Nat → Prop)
      (hnm : nm.size ≤ maxLen) (hn : ls.length ≤ maxLen) (hz : ∀ i, (h : i < ls.length) → ls[i].size ≤ maxLen) (hm : ts.length ≤ maxLen)
      (hls : ls = [] ∨ L = some ⟨gl, 0, none⟩ ∧ S gl ∧ RowStrs w gl ls) (hes : ts = [] ∨ A = some ⟨ga, 0, none⟩ ∧ S ga ∧ ElemRow 5 27 w ga ts.length vs) (hne : gl ≠ ga)
      (hsub : ∀ i, i < ts.length → ∀ b, Ss i b → S b ∧ b ≠ gl ∧ b ≠ ga) (hdis : ∀ i j, i < ts.length → j < ts.length → i ≠ j → ∀ b, Ss i b → ¬ Ss j b)
      (hks : ∀ i, (hi : i < ts.length) → VaIn w (Ss i) (vs i) ts[i]) : VaIn w S (.agg #[.int .i64 k, .int .i64 n, .string nm, .slice L ls.length lc, .slice A ts.length ac]) (.mk k n nm ls ts)

theorem VaIn.keep {w w' : World} {S : Nat → Prop} {v : Value} {t : Va} (h : VaIn w S v t) (hk : ∀ b, S b → b < w.heap.size → w'.heap[b]? = w.heap[b]?) : VaIn w' S v t := by
  induction h with
  | mk gl ga vs Ss hnm hn hz hm hls hes hne hsub hdis _ ih =>
    refine .mk gl ga vs Ss hnm hn hz hm (hls.imp id fun ⟨h1, h2, h3⟩ => ⟨h1, h2, h3.same (hk _ h2 h3.lt)⟩) (hes.imp id fun ⟨h1, h2, h3⟩ => ⟨h1, h2, h3.keep (hk _ h2 h3.lt)⟩) hne hsub hdis fun i hi => ih i hi fun b hb => hk b (hsub i hi b hb).1
theorem VaIn.wide {w : World} {S S' : Nat → Prop} {v : Value} {t : Va} (h : VaIn w S v t) (hS : ∀ b, S b → S' b) : VaIn w S' v t := by
  cases h with
  | mk gl ga vs Ss hnm hn hz hm hls hes hne hsub hdis hks =>
    exact .mk gl ga vs Ss hnm hn hz hm (hls.imp id fun ⟨h1, h2, h3⟩ => ⟨h1, hS _ h2, h3⟩) (hes.imp id fun ⟨h1, h2, h3⟩ => ⟨h1, hS _ h2, h3⟩) hne (fun i hi b hb => ⟨hS _ (hsub i hi b hb).1, (hsub i hi b hb).2⟩) hdis hks
theorem VaIn.at {w : World} {S : Nat → Prop} {v : Value} {t : Va} (h : VaIn w S v t) (B : Nat) (hB : ∀ b, S b → b < w.heap.size → b < B) : VaAt w B v t := by
  induction h with
  | @mk S k n nm ls ts L A lc ac gl ga vs Ss hnm hn hz hm hls hes hne hsub hdis _ ih =>
    refine .mk vs hnm hn hz hm ?_ ?_ fun i hi => ih i hi fun b hb => hB b (hsub i hi b hb).1
    · rcases hls with rfl | ⟨rfl, h2, h3⟩
      · exact StrsAt.empty _ _ _
      · exact h3.at _ (hB _ h2 h3.lt)
    · rcases hes with rfl | ⟨rfl, h2, h3⟩
      · exact fun i hi => absurd hi (by simp)
      · exact h3.at _ (hB _ h2 h3.lt)
theorem VaIn.here {w : World} {S : Nat → Prop} {v : Value} {t : Va} (h : VaIn w S v t) : VaAt w w.heap.size v t := h.at _ fun _ _ h => h

/-- The slice (A, length, c) reads as the list of trees; its blocks are all in S. -/
def VasIn (w : World) (S : Nat → Prop) (A : Option Addr) (ts : List Va) : Prop :=
  ts.length ≤ maxLen ∧ ∃ (ga : Nat) (vs : Nat → Value) (Ss : Nat → Nat → Prop), (ts = [] ∨ A = some ⟨ga, 0, none⟩ ∧ S ga ∧ ElemRow 5 27 w ga ts.length vs) ∧
    (∀ i, i < ts.length → ∀ b, Ss i b → S b ∧ b ≠ ga) ∧ (∀ i j, i < ts.length → j < ts.length → i ≠ j → ∀ b, Ss i b → ¬ Ss j b) ∧ ∀ i, (hi : i < ts.length) → VaIn w (Ss i) (vs i) ts[i]
theorem VasIn.at {w : World} {S : Nat → Prop} {A : Option Addr} {ts : List Va} (h : VasIn w S A ts) (B : Nat) (hB : ∀ b, S b → b < w.heap.size → b < B) : VasAt w B A ts := by
  obtain ⟨h0, ga, vs, Ss, h1, h2, h3, h4⟩ := h
  refine ⟨h0, vs, ?_, fun i hi => (h4 i hi).at B fun b hb => hB b (h2 i hi b hb).1⟩
  rcases h1 with rfl | ⟨rfl, h5, h6⟩
  · exact fun i hi => absurd hi (by simp)
  · exact h6.at _ (hB _ h5 h6.lt)
theorem VasIn.here {w : World} {S : Nat → Prop} {A : Option Addr} {ts : List Va} (h : VasIn w S A ts) : VasAt w w.heap.size A ts := h.at _ fun _ _ h => h
theorem VasIn.keep {w w' : World} {S : Nat → Prop} {A : Option Addr} {ts : List Va} (h : VasIn w S A ts) (hk : ∀ b, S b → b < w.heap.size → w'.heap[b]? = w.heap[b]?) : VasIn w' S A ts := by
  obtain ⟨h0, ga, vs, Ss, h1, h2, h3, h4⟩ := h
  exact ⟨h0, ga, vs, Ss, h1.imp id fun ⟨a, b, c⟩ => ⟨a, b, c.keep (hk _ b c.lt)⟩, h2, h3, fun i hi => (h4 i hi).keep fun b hb => hk b (h2 i hi b hb).1⟩

/-- A tree of labels and parts that lie apart. -/
theorem VaIn.of {w : World} {S Sa : Nat → Prop} {L A : Option Addr} {lc ac gl : Nat} {t : Va} (hnm : t.name.size ≤ maxLen) (hn : t.labels.length ≤ maxLen) (hz : ∀ i, (h : i < t.labels.length) → t.labels[i].size ≤ maxLen)
    (hl : t.labels = [] ∨ L = some ⟨gl, 0, none⟩ ∧ S gl ∧ RowStrs w gl t.labels) (ha : VasIn w Sa A t.args) (hs : ∀ b, Sa b → S b ∧ b ≠ gl) :
    VaIn w S (.agg #[.int .i64 t.kind, .int .i64 t.num, .string t.name, .slice L t.labels.length lc, .slice A t.args.length ac]) t := by
  obtain ⟨h0, ga, vs, Ss, h1, h2, h3, h4⟩ := ha
  cases t with
  | mk k n nm ls ts =>
    simp only [Va.labels, Va.args, Va.kind, Va.num, Va.name] at *
    rcases h1 with rfl | ⟨rfl, h5, h6⟩
    · exact .mk gl (gl + 1) vs Ss hnm hn hz h0 hl (.inl rfl) (by omega) (fun i hi => absurd hi (by simp)) (fun i _ hi => absurd hi (by simp)) h4
    · exact .mk gl ga vs Ss hnm hn hz h0 hl (.inr ⟨rfl, (hs _ h5).1, h6⟩) (fun e => (hs _ h5).2 e.symm) (fun i hi b hb => ⟨(hs _ (h2 i hi b hb).1).1, (hs _ (h2 i hi b hb).1).2, (h2 i hi b hb).2⟩) h3 h4
theorem VaIn.open {w : World} {S : Nat → Prop} {v : Value} {t : Va} (h : VaIn w S v t) :
    ∃ L lc A ac gl, v = .agg #[.int .i64 t.kind, .int .i64 t.num, .string t.name, .slice L t.labels.length lc, .slice A t.args.length ac] ∧ t.name.size ≤ maxLen ∧ t.labels.length ≤ maxLen ∧ (∀ i, (h : i < t.labels.length) → t.labels[i].size ≤ maxLen) ∧
      (t.labels = [] ∨ L = some ⟨gl, 0, none⟩ ∧ S gl ∧ RowStrs w gl t.labels) ∧ VasIn w (fun b => S b ∧ b ≠ gl) A t.args := by
  cases h with
  | mk gl ga vs Ss hnm hn hz hm hls hes hne hsub hdis hks =>
    exact ⟨_, _, _, _, gl, rfl, hnm, hn, hz, hls, hm, ga, vs, Ss, hes.imp id fun ⟨a, b, c⟩ => ⟨a, ⟨b, fun e => hne e.symm⟩, c⟩, fun i hi b hb => ⟨⟨(hsub i hi b hb).1, (hsub i hi b hb).2.1⟩, (hsub i hi b hb).2.2⟩, hdis, hks⟩

end Go.Proofs.YtceclhndagoddaaGreatDoor
end

section
namespace Go.Proofs.YtceclhndagoddaaGreatDoor
open Go.RowKit

theorem infoString : (Tryz.prog.info? 9).map (fun i => (i.zero, i.size, i.bytes)) = some (some (.string ⟨#[]⟩), 1, 16) := by kernel_rfl

/-- A new slice of the strings ss is handed back. -/
def NewStrs (w : World) (ss : List ByteArray) (e : Ending) (w' : World) : Prop :=
  ∃ g, e = .returned (.slice (some ⟨g, 0, none⟩) ss.length ss.length) ∧ w.heap.size ≤ g ∧ Whole1 w' g 9 (strVals ss).toArray ∧ Below w.heap.size w w'

end Go.Proofs.YtceclhndagoddaaGreatDoor

namespace Go.Proofs.YtceclhndagoddaaGreatDoor
open Go.RowKit

/-- True is handed back; the world only drew. -/
def TrueDrew (w : World) (e : Ending) (w' : World) : Prop := e = .returned (.bool true) ∧ ∃ n, w' = w.drewN n

end Go.Proofs.YtceclhndagoddaaGreatDoor

namespace Go.Proofs.YtceclhndagoddaaGreatDoor
open Go.RowKit

/-- The bytes of the first k strings with sep between. -/
def joinTo (ss : List ByteArray) (sep : ByteArray) : Nat → List UInt8
  | 0 => []
  | k + 1 => joinTo ss sep k ++ (if 0 < k then sep.data.toList else []) ++ (ss.getD k ⟨#[]⟩).data.toList

theorem joinTo_len (ss : List ByteArray) (sep : ByteArray) (k : Nat) (h : k ≤ ss.length) : (joinTo ss sep k).length ≤ sumSizes (ss.take k) + k * sep.size := by
  induction k with
  | zero => simp [joinTo]
  | succ k ih =>
    have h1 := ih (by omega)
    have h2 := sumSizes_take_succ ss k (by omega)
    have h3 : (ss.getD k ⟨#[]⟩).data.toList.length = ss[k].size := by simp [show k < ss.length by omega]
    have h4 : sep.data.toList.length = sep.size := by simp
    rw [joinTo, List.length_append, List.length_append, h2, h3, Nat.add_mul]
    split
    · omega
    · simp; omega

/-- Bytes as cells. -/
def cellsOf (l : List UInt8) : List Value := l.map fun b => Value.int .u8 (b.toNat : Int)
theorem cellsOf_append (a b : List UInt8) : cellsOf (a ++ b) = cellsOf a ++ cellsOf b := by simp [cellsOf]
theorem cellsOf_str (s : ByteArray) : Lib.strCells s = cellsOf s.data.toList := rfl
theorem cellsOf_len (l : List UInt8) : (cellsOf l).length = l.length := by simp [cellsOf]
theorem size_list (s : ByteArray) : s.data.toList.length = s.size := by simp

/-- string(b) of an owned row. -/
theorem run_convert_owned {P : Program} {w : World} {base n : Nat} {src dst e : TypeId} {v : Value} {l : List UInt8} (hs : P.underlying src = some (.slice e)) (he : P.underlying e = some (.int .u8)) (hd : P.underlying dst = some .string)
    (h : w.ownsRow base e 1 v n (cellsOf l)) : (convert src dst v).run P w = .ok (.string ⟨l.toArray⟩) w := by
  have hl : l.length = n := by simpa [cellsOf_len] using h.1
  rcases h.2 with ⟨rfl, h0⟩ | ⟨g, cap, cur, rfl, _⟩
  · have : l = [] := List.eq_nil_of_length_eq_zero (by omega)
    subst this
    rw [run_convert_bytes_nil w src e hs he 0 0 dst hd]
    rfl
  · rw [← hl]
    refine run_convert_bytes_back w src dst e ⟨g, 0, none⟩ cap l hs he hd fun j hj => ?_
    exact h.cells (g := g) rfl j _ (by simp [cellsOf, hj])

end Go.Proofs.YtceclhndagoddaaGreatDoor

namespace Go.Proofs.YtceclhndagoddaaGreatDoor
open Go.RowKit

def szStrs (left : Int) (ss : List ByteArray) : Int := if left - ss.length - sumSizes ss < 0 then -1 else left - ss.length - sumSizes ss
theorem ret_i64 {a b : Int} (h : a = b) : Ending.returned (.int .i64 a) = .returned (.int .i64 b) := by rw [h]

end Go.Proofs.YtceclhndagoddaaGreatDoor
end

section
namespace Go.Proofs.YtceclhndagoddaaGreatDoor
open Go.RowKit

/-- A new tree is handed back. -/
def NewTy (w : World) (t : Ty) (e : Ending) (w' : World) : Prop := ∃ v, e = .returned v ∧ TyIn w' (Span w.heap.size w'.heap.size) v t ∧ Below w.heap.size w w'
/-- A new list of trees is handed back. -/
def NewTys (w : World) (ts : List Ty) (e : Ending) (w' : World) : Prop := ∃ g c, e = .returned (.slice (some ⟨g, 0, none⟩) ts.length c) ∧ w.heap.size ≤ g ∧ TysIn w' (Span w.heap.size w'.heap.size) (some ⟨g, 0, none⟩) ts ∧ Below w.heap.size w w'

theorem bcell {W w1 : World} (hb : Below W.heap.size W w1) : (∀ b o, b < W.heap.size → w1.cell? ⟨b, o, none⟩ = W.cell? ⟨b, o, none⟩) ∧ (∀ b o, b < W.heap.size → w1.frozen? ⟨b, o, none⟩ = W.frozen? ⟨b, o, none⟩) :=
  ⟨fun b o h => hb.cell (p := ⟨b, o, none⟩) h, fun b o h => hb.frozen (p := ⟨b, o, none⟩) h⟩

theorem boxes3 (w : World) (t1 t2 t3 : TypeId) (a b c : Array Value) :
    Below w.heap.size w (((w.alloc (.cells a t1)).alloc (.cells b t2)).alloc (.cells c t3)) ∧ Whole1 (((w.alloc (.cells a t1)).alloc (.cells b t2)).alloc (.cells c t3)) w.heap.size t1 a ∧
    Whole1 (((w.alloc (.cells a t1)).alloc (.cells b t2)).alloc (.cells c t3)) (w.heap.size + 1) t2 b ∧ Whole1 (((w.alloc (.cells a t1)).alloc (.cells b t2)).alloc (.cells c t3)) (w.heap.size + 1 + 1) t3 c ∧
    (((w.alloc (.cells a t1)).alloc (.cells b t2)).alloc (.cells c t3)).heap.size = w.heap.size + 3 := by
  refine ⟨(((Below.refl _ _).alloc (Nat.le_refl _) _).alloc (by simp) _).alloc (by simp; omega) _, ?_, ?_, ?_, by simp⟩
  · exact Whole1.below (B := w.heap.size + 1) (Whole1.new _ _ _) (((Below.refl _ _).alloc (by simp) _).alloc (by simp) _) (by omega)
  · have h := Whole1.new (w.alloc (.cells a t1)) t2 b
    exact Whole1.below (B := w.heap.size + 2) (by simpa using h) ((Below.refl _ _).alloc (by simp) _) (by omega)
  · have h := Whole1.new ((w.alloc (.cells a t1)).alloc (.cells b t2)) t3 c
    simpa using h

/-- make of a row of elements of sz cells. -/
theorem run_make_elems {P : Program} {T E : TypeId} {z : Value} {sz by8 : Nat} (ht : P.underlying T = some (.slice E)) (hi : (P.info? E).map (fun i => (i.zero, i.size, i.bytes)) = some (some z, sz, by8)) (n : Nat) (hb : (by8 : Int) * n ≤ 281474976710656) (hn : n ≤ 1048576) (w : World) :
    ∃ cs : Array Value, cs.size = n * sz ∧ (Instr.makeSlice T (.int .i64 (n : Int)) (.int .i64 (n : Int))).run P w = .ok (.slice (some ⟨w.heap.size, 0, none⟩) n n) (w.alloc (.cells cs E)) := by
  obtain ⟨i, h1, h2, h3, h4⟩ := info_parts hi
  have hr := run_make (P := P) w T E i _ ht h1 h2 .i64 .i64 n n (by omega) (by omega) (by rw [h4]; exact hb) (by omega)
  simp only [Int.toNat_natCast] at hr
  refine ⟨_, ?_, hr⟩
  rw [size_madeCells, h3]

theorem infoType : (Tryz.prog.info? 58).map (fun i => (i.zero, i.size, i.bytes)) = some (some (.agg #[.int .i64 0, .slice none 0 0, .slice none 0 0]), 3, 56) := by kernel_rfl

theorem boxes1 (w : World) (t1 : TypeId) (a : Array Value) : Below w.heap.size w (w.alloc (.cells a t1)) ∧ Whole1 (w.alloc (.cells a t1)) w.heap.size t1 a ∧ (w.alloc (.cells a t1)).heap.size = w.heap.size + 1 :=
  ⟨(Below.refl _ _).alloc (Nat.le_refl _) _, Whole1.new _ _ _, by simp⟩

/-- Row g of n elements; those below k are made, each in blocks of its own. -/
def Filling (w : World) (lo g n k : Nat) (ts : List Ty) : Prop :=
  ∃ (cs : Array Value) (vs : Nat → Value) (bd : Nat → Nat), Whole1 w g 58 cs ∧ cs.size = n * 3 ∧ (∀ i, i < k → ∀ j, j < 3 → (partAt (vs i) j).isSome = true ∧ cs[i * 3 + j]? = partAt (vs i) j) ∧
    lo ≤ g ∧ g < bd 0 ∧ (∀ i, i < k → bd i ≤ bd (i + 1)) ∧ bd k ≤ w.heap.size ∧ ∀ i, (hi : i < ts.length) → i < k → TyIn w (Span (bd i) (bd (i + 1))) (vs i) ts[i]

theorem bd_mono (bd : Nat → Nat) (k : Nat) (h : ∀ i, i < k → bd i ≤ bd (i + 1)) : ∀ i j, i ≤ j → j ≤ k → bd i ≤ bd j
  | i, 0, h1, _ => by
    have : i = 0 := by omega
    subst this
    exact Nat.le_refl _
  | i, j + 1, h1, h2 => by
    by_cases e : i = j + 1
    · rw [e]
      exact Nat.le_refl _
    · exact Nat.le_trans (bd_mono bd k h i j (by omega) (by omega)) (h j (by omega))

theorem Filling.done {w : World} {lo g : Nat} {ts : List Ty} (h : Filling w lo g ts.length ts.length ts) (hm : ts.length ≤ maxLen) : TysIn w (Span lo w.heap.size) (some ⟨g, 0, none⟩) ts := by
  obtain ⟨cs, vs, bd, h1, h2, h3, h4, h5, h6, h7, h8⟩ := h
  refine ⟨hm, g, vs, fun i => Span (bd i) (bd (i + 1)), .inr ⟨rfl, ⟨h4, h1.lt⟩, cs, h1, h3⟩, fun i hi b hb => ?_, fun i j hi hj hne b hb hb' => ?_, fun i hi => h8 i hi hi⟩
  · have a := bd_mono bd _ h6 0 i (by omega) (by omega)
    have c := bd_mono bd _ h6 (i + 1) ts.length (by omega) (Nat.le_refl _)
    have := hb.1
    have := hb.2
    exact ⟨⟨by omega, by omega⟩, by omega⟩
  · have := hb.1
    have := hb.2
    have := hb'.1
    have := hb'.2
    rcases Nat.lt_or_gt_of_ne hne with hlt | hlt
    · have a := bd_mono bd _ h6 (i + 1) j (by omega) (by omega)
      omega
    · have a := bd_mono bd _ h6 (j + 1) i (by omega) (by omega)
      omega
theorem Filling.below {w w' : World} {lo g n k : Nat} {ts : List Ty} (h : Filling w lo g n k ts) (hb : Below w.heap.size w w') : Filling w' lo g n k ts := by
  obtain ⟨cs, vs, bd, h1, h2, h3, h4, h5, h6, h7, h8⟩ := h
  refine ⟨cs, vs, bd, h1.below hb h1.lt, h2, h3, h4, h5, h6, Nat.le_trans h7 hb.size, fun i hi hk => (h8 i hi hk).keep fun b hB _ => hb.block b ?_⟩
  have := bd_mono bd k h6 (i + 1) k (by omega) (Nat.le_refl _)
  have := hB.2
  omega
/-- The next element is stored. -/
theorem Filling.step {w w' : World} {lo g n k : Nat} {ts : List Ty} {a b c : Value} (h : Filling w lo g n k ts) (hb : Below w.heap.size w w') (hk : k < n) (hkt : k < ts.length) (hv : TyIn w' (Span w.heap.size w'.heap.size) (.agg #[a, b, c]) ts[k]) :
    Filling (((w'.setCell ⟨g, k * 3, none⟩ a).setCell ⟨g, k * 3 + 1, none⟩ b).setCell ⟨g, k * 3 + 2, none⟩ c) lo g n (k + 1) ts := by
  obtain ⟨cs, vs, bd, h1, h2, h3, h4, h5, h6, h7, h8⟩ := h
  have hlt := h1.lt
  have hw := (((h1.below hb hlt).set (k * 3) a).set (k * 3 + 1) b).set (k * 3 + 2) c
  have hsz := hb.size
  have hk' : ∀ q, q ≠ g → (((w'.setCell ⟨g, k * 3, none⟩ a).setCell ⟨g, k * 3 + 1, none⟩ b).setCell ⟨g, k * 3 + 2, none⟩ c).heap[q]? = w'.heap[q]? := fun q hq => by
    rw [Below.heap_setCell _ _ _ _ hq, Below.heap_setCell _ _ _ _ hq, Below.heap_setCell _ _ _ _ hq]
  have hS : (((w'.setCell ⟨g, k * 3, none⟩ a).setCell ⟨g, k * 3 + 1, none⟩ b).setCell ⟨g, k * 3 + 2, none⟩ c).heap.size = w'.heap.size := by simp [World.setCell]
  generalize ((w'.setCell ⟨g, k * 3, none⟩ a).setCell ⟨g, k * 3 + 1, none⟩ b).setCell ⟨g, k * 3 + 2, none⟩ c = W at *
  have hg0 : ∀ i, i ≤ k → g < bd i := fun i hi => Nat.lt_of_lt_of_le h5 (bd_mono bd k h6 0 i (by omega) hi)
  refine ⟨_, fun j => if j = k then .agg #[a, b, c] else vs j, fun j => if j ≤ k then bd j else w'.heap.size, hw, by simp [h2], fun i hi j hj => ?_, h4, by simpa using h5, fun i hi => ?_, ?_, fun i hi hik => ?_⟩
  · dsimp only
    have hb3 : k * 3 + 2 < cs.size := by omega
    by_cases e : i = k
    · subst e
      rw [if_pos rfl]
      simp only [Array.getElem?_setIfInBounds, Array.size_setIfInBounds]
      have : j = 0 ∨ j = 1 ∨ j = 2 := by omega
      rcases this with rfl | rfl | rfl
      · simp [partAt]; omega
      · simp [partAt]; omega
      · simp [partAt]; omega
    · rw [if_neg e]
      have hh := h3 i (by omega) j hj
      refine ⟨hh.1, ?_⟩
      rw [← hh.2]
      simp only [Array.getElem?_setIfInBounds, Array.size_setIfInBounds]
      rw [if_neg (by omega), if_neg (by omega), if_neg (by omega)]
  · dsimp only
    by_cases e : i = k
    · subst e
      rw [if_pos (Nat.le_refl _), if_neg (by omega)]
      omega
    · rw [if_pos (by omega), if_pos (by omega)]
      exact h6 i (by omega)
  · dsimp only
    rw [if_neg (by omega), hS]
    exact Nat.le_refl _
  · dsimp only
    by_cases e : i = k
    · subst e
      rw [if_pos rfl, if_pos (Nat.le_refl _), if_neg (by omega)]
      refine (hv.wide fun q hq => ⟨by have := hq.1; omega, hq.2⟩).keep fun q hq _ => hk' q ?_
      have := hq.1
      have := hg0 i (Nat.le_refl _)
      omega
    · rw [if_neg e, if_pos (by omega), if_pos (by omega)]
      refine (h8 i hi (by omega)).keep fun q hq _ => ?_
      have e1 := hq.1
      have e2 := hq.2
      have e3 := hg0 i (by omega)
      have e4 := bd_mono bd k h6 (i + 1) k (by omega) (Nat.le_refl _)
      rw [hk' q (by omega)]
      exact hb.block q (by omega)

end Go.Proofs.YtceclhndagoddaaGreatDoor
end

section
namespace Go.Proofs.YtceclhndagoddaaGreatDoor
open Go.RowKit

theorem Filling.cells {w : World} {lo g n k : Nat} {ts : List Ty} (h : Filling w lo g n k ts) (i : Nat) (hi : i < n) : ∃ x y z, w.cell? ⟨g, i * 3, none⟩ = some x ∧ w.cell? ⟨g, i * 3 + 1, none⟩ = some y ∧ w.cell? ⟨g, i * 3 + 2, none⟩ = some z ∧
    w.frozen? ⟨g, i * 3, none⟩ = false ∧ w.frozen? ⟨g, i * 3 + 1, none⟩ = false ∧ w.frozen? ⟨g, i * 3 + 2, none⟩ = false := by
  obtain ⟨cs, vs, bd, h1, h2, _⟩ := h
  refine ⟨cs[i * 3]'(by omega), cs[i * 3 + 1]'(by omega), cs[i * 3 + 2]'(by omega), ?_, ?_, ?_, h1.free _, h1.free _, h1.free _⟩
  all_goals rw [h1.cell, Array.getElem?_eq_getElem]
theorem Filling.start (w : World) (cs : Array Value) (n : Nat) (ts : List Ty) (hs : cs.size = n * 3) : Filling (w.alloc (.cells cs 58)) w.heap.size w.heap.size n 0 ts :=
  ⟨cs, fun _ => .bool false, fun _ => w.heap.size + 1, Whole1.new _ _ _, hs, fun i hi => absurd hi (by omega), Nat.le_refl _, Nat.lt_succ_self _, fun i hi => absurd hi (by omega), by simp, fun i _ hi => absurd hi (by omega)⟩

end Go.Proofs.YtceclhndagoddaaGreatDoor

namespace Go.Proofs.YtceclhndagoddaaGreatDoor
open Go.RowKit

/-- The value v owns a row of k elements, the aggregates vs, whose cells are xs; each reads as its tree, in blocks of its own. -/
structure GatherAt (w : World) (base : Nat) (v : Value) (k : Nat) (ts : List Ty) (xs : List Value) (vs : Nat → Value) (lo hi : Nat → Nat) : Prop where
  own : w.ownsRow base 58 3 v k xs
  cells : ∀ i, i < k → ∀ j, j < 3 → (partAt (vs i) j).isSome = true ∧ xs[i * 3 + j]? = partAt (vs i) j
  low : ∀ i, i < k → base ≤ lo i ∧ hi i ≤ w.heap.size
  apart : ∀ i j, i < j → j < k → hi i ≤ lo j
  free : ∀ i, i < k → ∀ g, v.ownBlock = some g → ¬ Span (lo i) (hi i) g
  kids : ∀ i, (h : i < ts.length) → i < k → TyIn w (Span (lo i) (hi i)) (vs i) ts[i]
def Gather (w : World) (base : Nat) (v : Value) (k : Nat) (ts : List Ty) : Prop := ∃ xs vs lo hi, GatherAt w base v k ts xs vs lo hi

theorem Gather.start (w : World) (base : Nat) (ts : List Ty) : Gather w base (.slice none 0 0) 0 ts :=
  ⟨[], fun _ => .bool false, fun _ => 0, fun _ => 0, World.ownsRow_nil w base _ 3, fun _ h => absurd h (Nat.not_lt_zero _), fun _ h => absurd h (Nat.not_lt_zero _), fun _ _ _ h => absurd h (Nat.not_lt_zero _), fun _ h => absurd h (Nat.not_lt_zero _), fun _ _ h => absurd h (Nat.not_lt_zero _)⟩

theorem own_keep {w w' : World} {base k : Nat} {e : TypeId} {v : Value} {xs : List Value} (h : w.ownsRow base e 3 v k xs) (hk : ∀ g, v.ownBlock = some g → w'.heap[g]? = w.heap[g]?) : w'.ownsRow base e 3 v k xs := by
  refine ⟨h.1, ?_⟩
  rcases h.2 with h2 | ⟨g, cap, cur, h1, h2, h3, h4⟩
  · exact .inl h2
  · exact .inr ⟨g, cap, cur, h1, h2, (hk g (by rw [h1]; rfl)).trans h3, h4⟩

/-- Where the blocks from base on stand, but for one outside, all stands. -/
theorem GatherAt.keep {w w' : World} {base k : Nat} {v : Value} {ts : List Ty} {xs : List Value} {vs : Nat → Value} {lo hi : Nat → Nat} (h : GatherAt w base v k ts xs vs lo hi) (hs : w.heap.size ≤ w'.heap.size) (hk : ∀ g, base ≤ g → g < w.heap.size → w'.heap[g]? = w.heap[g]?) : GatherAt w' base v k ts xs vs lo hi :=
  ⟨own_keep h.own fun g hg => hk g (h.own.lt g hg).1 (h.own.lt g hg).2, h.cells, fun i hi' => ⟨(h.low i hi').1, Nat.le_trans (h.low i hi').2 hs⟩, h.apart, h.free,
    fun i hi' hik => (h.kids i hi' hik).keep fun b hb hbl => hk b (Nat.le_trans (h.low i hik).1 hb.1) hbl⟩
theorem Gather.keep {w w' : World} {base k : Nat} {v : Value} {ts : List Ty} (h : Gather w base v k ts) (hs : w.heap.size ≤ w'.heap.size) (hk : ∀ g, base ≤ g → g < w.heap.size → w'.heap[g]? = w.heap[g]?) : Gather w' base v k ts := by
  obtain ⟨xs, vs, lo, hi, h⟩ := h
  exact ⟨xs, vs, lo, hi, h.keep hs hk⟩
theorem Gather.below {w w' : World} {base k : Nat} {v : Value} {ts : List Ty} (h : Gather w base v k ts) (hb : Below w.heap.size w w') : Gather w' base v k ts := h.keep hb.size fun g _ hg => hb.block g hg
theorem Gather.set {w : World} {base k p o : Nat} {v u : Value} {ts : List Ty} (h : Gather w base v k ts) (hp : p < base) : Gather (w.setCell ⟨p, o, none⟩ u) base v k ts :=
  h.keep (by simp [World.setCell]) fun g hg _ => Below.heap_setCell _ _ _ _ (by show g ≠ p; omega)

/-- One more tree is appended. -/
theorem GatherAt.step {w w1 w3 : World} {base k g cap : Nat} {v a b c : Value} {ts : List Ty} {xs : List Value} {vs : Nat → Value} {lo hi : Nat → Nat} (h : GatherAt w base v k ts xs vs lo hi) (hb : Below w.heap.size w w1) (hbase : base ≤ w.heap.size) (hk : k < ts.length)
    (ht : TyIn w1 (Span w.heap.size w1.heap.size) (.agg #[a, b, c]) ts[k]) (hown : w3.ownsRow base 58 3 (.slice (some ⟨g, 0, none⟩) (k + 1) cap) (k + 1) (xs ++ [a, b, c]))
    (hg : (w1.alloc (.cells #[a, b, c] 58)).grownBy w3 v.ownBlock) (hat : v.ownBlock = some g ∨ g = w1.heap.size + 1) : Gather w3 base (.slice (some ⟨g, 0, none⟩) (k + 1) cap) (k + 1) ts := by
  have hs1 := hb.size
  have hs3 : w1.heap.size + 1 ≤ w3.heap.size := by have := hg.size; simp at this; exact this
  have hxl : xs.length = k * 3 := h.own.1
  have hkeep : ∀ q, q < w1.heap.size → v.ownBlock ≠ some q → w3.heap[q]? = w1.heap[q]? := fun q hq hne =>
    (hg.block q (by simp; omega) (fun e => hne e.symm)).trans (Below.heap_alloc _ _ _ hq)
  refine ⟨xs ++ [a, b, c], fun i => if i = k then .agg #[a, b, c] else vs i, fun i => if i = k then w.heap.size else lo i, fun i => if i = k then w1.heap.size else hi i, hown, fun i hi' j hj => ?_, fun i hi' => ?_, fun i j hij hj => ?_, fun i hi' q hq => ?_, fun i hi' hik => ?_⟩
  · by_cases e : i = k
    · subst e
      rw [if_pos rfl, List.getElem?_append_right (by omega), hxl]
      have : j = 0 ∨ j = 1 ∨ j = 2 := by omega
      rcases this with rfl | rfl | rfl
      · simp [partAt]
      · simp [partAt]
      · simp [partAt]
    · rw [if_neg e, List.getElem?_append_left (by omega)]
      exact h.cells i (by omega) j hj
  · by_cases e : i = k
    · rw [if_pos e, if_pos e]
      omega
    · rw [if_neg e, if_neg e]
      have := h.low i (by omega)
      omega
  · rw [if_neg (show i ≠ k by omega)]
    by_cases e : j = k
    · rw [if_pos e]
      exact (h.low i (by omega)).2
    · rw [if_neg e]
      exact h.apart i j hij (by omega)
  · have hqg : q = g := (Option.some.inj hq).symm
    subst hqg
    by_cases e : i = k
    · rw [if_pos e, if_pos e]
      intro hs
      have a1 := hs.1
      have a2 := hs.2
      rcases hat with hat | hat
      · have := (h.own.lt q hat).2
        omega
      · omega
    · rw [if_neg e, if_neg e]
      rcases hat with hat | hat
      · exact h.free i (by omega) q hat
      · intro hs
        have := hs.2
        have := (h.low i (by omega)).2
        omega
  · by_cases e : i = k
    · subst e
      rw [if_pos rfl, if_pos rfl, if_pos rfl]
      refine ht.keep fun q hq _ => hkeep q hq.2 fun hv => ?_
      have := (h.own.lt q hv).2
      have := hq.1
      omega
    · rw [if_neg e, if_neg e, if_neg e]
      refine (h.kids i hi' (by omega)).keep fun q hq hql => ?_
      rw [hkeep q (by omega) fun hv => h.free i (by omega) q hv hq]
      exact hb.block q hql

theorem Gather.done {w : World} {base c : Nat} {A : Option Addr} {ts : List Ty} (h : Gather w base (.slice A ts.length c) ts.length ts) (hm : ts.length ≤ maxLen) : TysIn w (Span base w.heap.size) A ts := by
  obtain ⟨xs, vs, lo, hi, h⟩ := h
  have hdis : ∀ i j, i < ts.length → j < ts.length → i ≠ j → ∀ b, Span (lo i) (hi i) b → ¬ Span (lo j) (hi j) b := fun i j hi' hj hne b hb hb' => by
    have := hb.1
    have := hb.2
    have := hb'.1
    have := hb'.2
    rcases Nat.lt_or_gt_of_ne hne with hlt | hlt
    · have := h.apart i j hlt hj
      omega
    · have := h.apart j i hlt hi'
      omega
  rcases h.own.2 with ⟨_, h2⟩ | ⟨g, cap, cur, h1, h2, h3, h4, h5, h6, h7⟩
  · have : ts = [] := List.length_eq_zero_iff.1 h2
    subst this
    exact ⟨hm, 0, vs, fun _ _ => False, .inl rfl, fun i hi => absurd hi (by simp), fun i _ hi => absurd hi (by simp), fun i hi => absurd hi (by simp)⟩
  · injection h1 with h1 _ _
    subst h1
    have hgl := (h.own.lt g rfl).2
    refine ⟨hm, g, vs, fun i => Span (lo i) (hi i), .inr ⟨rfl, ⟨h2, hgl⟩, cur, h3, fun i hi' j hj => ?_⟩, fun i hi' b hb => ⟨⟨?_, ?_⟩, fun e => h.free i hi' g rfl (by rw [← e]; exact hb)⟩, hdis, fun i hi' => h.kids i hi' hi'⟩
    · have hc := h.cells i hi' j hj
      refine ⟨hc.1, ?_⟩
      rw [← hc.2, ← h7, List.getElem?_take, if_pos (by omega)]
      simp
    · have := (h.low i hi').1
      have := hb.1
      omega
    · have := (h.low i hi').2
      have := hb.2
      omega

end Go.Proofs.YtceclhndagoddaaGreatDoor
end
