/- Lemmas: VTxtS, ReadVStep, SpecDef3. -/
import Derived.Test.YtceclhndagoddaaGreatDoorLawFnValueText_15
import Derived.Test.YtceclhndagoddaaGreatDoorLawFnValueText_17
import Derived.Test.YtceclhndagoddaaGreatDoorLawFnValueText_6
import Derived.Test.YtceclhndagoddaaGreatDoorLawFnValueText_8
import Derived.Test.YtceclhndagoddaaGreatDoorLawFnValueText_5
import Derived.Deep.DeepCutAuto

section
namespace Go.Proofs.YtceclhndagoddaaGreatDoor
open Go.RowKit

/-- Labels with parts, as far as commas stand between. -/
def rdLabE (f : List UInt8 → Option (Va × List UInt8)) : Nat → List UInt8 → Option (List ByteArray × List Va × List UInt8)
  | 0, _ => none
  | n + 1, l =>
    match eat 61 (l.dropWhile wordC) with
    | none => none
    | some r =>
      match f r with
      | none => none
      | some (t, r1) =>
        match eat 44 r1 with
        | none => some ([⟨(l.takeWhile wordC).toArray⟩], [t], r1)
        | some r2 =>
          match rdLabE f n r2 with
          | none => none
          | some (ls, ts, q) => some (⟨(l.takeWhile wordC).toArray⟩ :: ls, t :: ts, q)
def rdBoxE (f : List UInt8 → Option (Va × List UInt8)) (l : List UInt8) : Option (Va × List UInt8) :=
  match rdLabE f (l.length + 1) l with
  | none => none
  | some (ls, ts, q) => match eat 125 q with
    | none => none
    | some r => some (.mk 3 0 ⟨#[]⟩ ls ts, r)
/-- A value of n levels at most is read. -/
def rdVaS : Nat → List UInt8 → Option (Va × List UInt8)
  | 0, _ => none
  | n + 1, l =>
    match eats [35, 116] l with
    | some r => some (.mk 2 1 ⟨#[]⟩ [] [], r)
    | none => match eats [35, 102] l with
      | some r => some (.mk 2 0 ⟨#[]⟩ [] [], r)
      | none => match eat 123 l with
        | some r => rdBoxE (rdVaS n) r
        | none => match eat 91 l with
          | some r => rdList (rdVaS n) r
          | none => match eat 60 l with
            | some r => rdTag (rdVaS n) r
            | none => rdIntV l

theorem rdLabE_seq (f : List UInt8 → Option (Va × List UInt8)) : ∀ (n : Nat) (l : List UInt8), rdLabE f n l = (rdSeq (rdField f) n l).map fun x => (x.1.map (·.1), x.1.map (·.2), x.2) := by
  intro n
  induction n with
  | zero =>
    intro l
    rfl
  | succ n ih =>
    intro l
    rw [rdLabE, rdSeq, rdField]
    cases eat 61 (l.dropWhile wordC) with
    | none => rfl
    | some r =>
      simp only []
      cases f r with
      | none => rfl
      | some x =>
        obtain ⟨t, r1⟩ := x
        simp only []
        cases eat 44 r1 with
        | none => rfl
        | some r2 =>
          simp only []
          rw [ih r2]
          cases rdSeq (rdField f) n r2 with
          | none => rfl
          | some y => rfl
section Mono
variable {α : Type}
theorem rdSeq_mono {f g : List UInt8 → Option (α × List UInt8)} {P : α → Prop} (h : ∀ l a r, f l = some (a, r) → P a → g l = some (a, r)) : ∀ (n : Nat) (l : List UInt8) (us : List α) (q : List UInt8), rdSeq f n l = some (us, q) → (∀ a ∈ us, P a) → rdSeq g n l = some (us, q) := by
  intro n
  induction n with
  | zero =>
    intro l us q e
    cases e
  | succ n ih =>
    intro l us q e hP
    rw [rdSeq] at e ⊢
    split at e
    · cases e
    · rename_i a r ha
      split at e
      · rename_i h44
        cases e
        rw [h _ _ _ ha (hP a (by simp))]
        simp only [h44]
      · rename_i r2 h44
        split at e
        · cases e
        · rename_i us' q' hq
          cases e
          rw [h _ _ _ ha (hP a (by simp))]
          simp only [h44]
          rw [ih _ _ _ hq fun b hb => hP b (by simp [hb])]
theorem rdSeqE_mono {f g : List UInt8 → Option (α × List UInt8)} {P : α → Prop} (h : ∀ l a r, f l = some (a, r) → P a → g l = some (a, r)) (e : UInt8) (l : List UInt8) (us : List α) (r : List UInt8) (hx : rdSeqE f e l = some (us, r)) (hP : ∀ a ∈ us, P a) : rdSeqE g e l = some (us, r) := by
  unfold rdSeqE at hx ⊢
  split at hx
  · exact hx
  · rename_i hn
    split at hx
    · cases hx
    · rename_i us' q hq
      split at hx
      · cases hx
      · rename_i r' hr
        cases hx
        rw [rdSeq_mono h _ _ _ _ hq hP]
        simp only [hr]
end Mono
theorem rdField_mono {f g : List UInt8 → Option (Va × List UInt8)} {P : Va → Prop} (h : ∀ l a r, f l = some (a, r) → P a → g l = some (a, r)) (l : List UInt8) (a : ByteArray × Va) (r : List UInt8) (hx : rdField f l = some (a, r)) (hP : P a.2) : rdField g l = some (a, r) := by
  unfold rdField at hx ⊢
  split at hx
  · cases hx
  · rename_i r' hr
    split at hx
    · cases hx
    · rename_i t q ht
      cases hx
      rw [h _ _ _ ht hP]
theorem rdTag_mono {f g : List UInt8 → Option (Va × List UInt8)} {P : Va → Prop} (h : ∀ l a r, f l = some (a, r) → P a → g l = some (a, r)) (l : List UInt8) (t : Va) (r : List UInt8) (hx : rdTag f l = some (t, r)) (hP : ∀ u ∈ t.args, P u) : rdTag g l = some (t, r) := by
  unfold rdTag at hx ⊢
  split at hx
  · cases hx
  · rename_i r' hr
    split at hx
    · cases hx
    · rename_i u q hu
      split at hx
      · cases hx
      · rename_i q2 hq2
        cases hx
        rw [h _ _ _ hu (hP u (by simp [Va.args]))]
        simp only [hq2]
theorem rdList_mono {f g : List UInt8 → Option (Va × List UInt8)} {P : Va → Prop} (h : ∀ l a r, f l = some (a, r) → P a → g l = some (a, r)) (l : List UInt8) (t : Va) (r : List UInt8) (hx : rdList f l = some (t, r)) (hP : ∀ u ∈ t.args, P u) : rdList g l = some (t, r) := by
  unfold rdList at hx ⊢
  split at hx
  · cases hx
  · rename_i ts q hq
    cases hx
    rw [rdSeqE_mono h _ _ _ _ hq hP]
theorem rdSeq_brace (f : List UInt8 → Option (Va × List UInt8)) (n : Nat) (q : List UInt8) : rdSeq (rdField f) n (125 :: q) = none := by
  cases n with
  | zero => rfl
  | succ n =>
    rw [rdSeq, rdField, List.dropWhile_cons_of_neg (by decide)]
    simp only [show eat 61 (125 :: q) = none from eat_other _ (by decide)]
/-- What it reads the other reader reads. -/
theorem rdVaS_to (n : Nat) : ∀ (l : List UInt8) (t : Va) (r : List UInt8), rdVaS n l = some (t, r) → rdVa n l = some (t, r) := by
  induction n with
  | zero =>
    intro l t r h
    cases h
  | succ n ih =>
    intro l t r h
    have ih' : ∀ l a r, rdVaS n l = some (a, r) → True → rdVa n l = some (a, r) := fun l a r h _ => ih l a r h
    rw [rdVaS] at h
    rw [rdVa]
    split at h
    · rename_i h1
      simp only [h1]
      exact h
    · rename_i h1
      simp only [h1]
      split at h
      · rename_i h2
        simp only [h2]
        exact h
      · rename_i h2
        simp only [h2]
        split at h
        · rename_i r' h3
          simp only [h3]
          unfold rdBoxE at h
          rw [rdLabE_seq] at h
          unfold rdRec rdSeqE
          cases hb : eat 125 r' with
          | some q =>
            rw [eat_some hb, rdSeq_brace] at h
            cases h
          | none =>
            simp only []
            cases hs : rdSeq (rdField (rdVaS n)) (r'.length + 1) r' with
            | none => rw [hs] at h; cases h
            | some x =>
              obtain ⟨ps, q⟩ := x
              rw [hs] at h
              simp only [Option.map_some] at h
              rw [rdSeq_mono (P := fun _ => True) (fun l a r h _ => rdField_mono (P := fun _ => True) ih' l a r h trivial) _ _ _ _ hs (fun _ _ => trivial)]
              simp only []
              split at h
              · cases h
              · rename_i q2 hq2
                cases h
                simp only [hq2]
        · rename_i h3
          simp only [h3]
          split at h
          · rename_i h4
            simp only [h4]
            exact rdList_mono ih' _ _ _ h (fun _ _ => trivial)
          · rename_i h4
            simp only [h4]
            split at h
            · rename_i h5
              simp only [h5]
              exact rdTag_mono ih' _ _ _ h (fun _ _ => trivial)
            · rename_i h5
              simp only [h5]
              exact h
/-- What the other reader reads, and has forms, it reads. -/
theorem rdVaS_of (n : Nat) : ∀ (l : List UInt8) (t : Va) (r : List UInt8), rdVa n l = some (t, r) → formVa t = true → rdVaS n l = some (t, r) := by
  induction n with
  | zero =>
    intro l t r h
    cases h
  | succ n ih =>
    intro l t r h hf
    rw [rdVa] at h
    rw [rdVaS]
    split at h
    · rename_i h1
      simp only [h1]
      exact h
    · rename_i h1
      simp only [h1]
      split at h
      · rename_i h2
        simp only [h2]
        exact h
      · rename_i h2
        simp only [h2]
        split at h
        · rename_i r' h3
          simp only [h3]
          unfold rdRec rdSeqE at h
          unfold rdBoxE
          rw [rdLabE_seq]
          cases hb : eat 125 r' with
          | some q =>
            rw [hb] at h
            cases h
            rw [formVa, Bool.and_eq_true] at hf
            have hk := nodeVB_kind hf.2
            rcases hk with ⟨h1, _⟩ | ⟨h1, _⟩ | ⟨_, _, h1⟩ | ⟨h1, _⟩ | h1
            · exact absurd h1 (by decide)
            · exact absurd h1 (by decide)
            · exact absurd rfl (labelsB_some h1)
            · exact absurd h1 (by decide)
            · exact absurd h1 (by decide)
          | none =>
            rw [hb] at h
            simp only [] at h
            cases hs : rdSeq (rdField (rdVa n)) (r'.length + 1) r' with
            | none => rw [hs] at h; cases h
            | some x =>
              obtain ⟨ps, q⟩ := x
              rw [hs] at h
              simp only [] at h
              cases hq2 : eat 125 q with
              | none => rw [hq2] at h; cases h
              | some q2 =>
                rw [hq2] at h
                cases h
                rw [formVa, Bool.and_eq_true] at hf
                rw [rdSeq_mono (P := fun p : ByteArray × Va => formVa p.2 = true) (fun l a r h hp => rdField_mono (P := fun t => formVa t = true) ih l a r h hp) _ _ _ _ hs (fun a ha => formVas_mem hf.1 _ (List.mem_map.2 ⟨a, ha, rfl⟩))]
                simp only [Option.map_some, hq2]
        · rename_i h3
          simp only [h3]
          have hargs : ∀ u ∈ t.args, formVa u = true := by
            cases t with
            | mk k n0 nm ls ts =>
              rw [formVa, Bool.and_eq_true] at hf
              exact formVas_mem hf.1
          split at h
          · rename_i h4
            simp only [h4]
            exact rdList_mono ih _ _ _ h hargs
          · rename_i h4
            simp only [h4]
            split at h
            · rename_i h5
              simp only [h5]
              exact rdTag_mono ih _ _ _ h hargs
            · rename_i h5
              simp only [h5]
              exact h
/-- The value of a text, by the model's reader. -/
theorem parseVB_S (s : ByteArray) : parseVB s = match rdVaS 300 s.data.toList with | some (t, []) => if valueB t then some t else none | _ => none := by
  unfold parseVB
  cases h : rdVaS 300 s.data.toList with
  | some x =>
    obtain ⟨t, r⟩ := x
    rw [rdVaS_to _ _ _ _ h]
    cases r with
    | nil => rfl
    | cons c q => rfl
  | none =>
    cases h2 : rdVa 300 s.data.toList with
    | none => rfl
    | some x =>
      obtain ⟨t, r⟩ := x
      have hf : formVa t = false := by
        cases hf : formVa t with
        | false => rfl
        | true => rw [rdVaS_of _ _ _ _ h2 hf] at h; cases h
      cases r with
      | cons c q => rfl
      | nil =>
        have hv : valueB t = false := by unfold valueB; rw [hf, Bool.and_false]
        simp only [hv]
        rfl

end Go.Proofs.YtceclhndagoddaaGreatDoor
end

section
namespace Go.Proofs.YtceclhndagoddaaGreatDoor
open Go.RowKit

theorem set5_keep (w : World) (r : Nat) (a b c d e : Value) (g : Nat) (hg : g ≠ r) : (((((w.setCell ⟨r, 0, none⟩ a).setCell ⟨r, 1, none⟩ b).setCell ⟨r, 2, none⟩ c).setCell ⟨r, 3, none⟩ d).setCell ⟨r, 4, none⟩ e).heap[g]? = w.heap[g]? := by
  rw [Below.heap_setCell _ _ _ _ hg, Below.heap_setCell _ _ _ _ hg, Below.heap_setCell _ _ _ _ hg, Below.heap_setCell _ _ _ _ hg, Below.heap_setCell _ _ _ _ hg]
theorem box_grown5 {w W : World} {p z : Nat} (hg : w.grownBy W (some p)) (hz : w.heap.size ≤ z) (a b c d e : Value) : w.grownBy (((((W.setCell ⟨z, 0, none⟩ a).setCell ⟨z, 1, none⟩ b).setCell ⟨z, 2, none⟩ c).setCell ⟨z, 3, none⟩ d).setCell ⟨z, 4, none⟩ e) (some p) :=
  have hb := (((((Below.refl w.heap.size W).setCell (p := ⟨z, 0, none⟩) hz a).setCell (p := ⟨z, 1, none⟩) hz b).setCell (p := ⟨z, 2, none⟩) hz c).setCell (p := ⟨z, 3, none⟩) hz d).setCell (p := ⟨z, 4, none⟩) hz e
  ⟨hb.os.trans hg.os, hb.tape.trans hg.tape, hb.output.trans hg.output, Nat.le_trans hg.size hb.size, fun i hi hne => (hb.block i hi).trans (hg.block i hi hne)⟩
theorem OwnVAt.setz {w : World} {z i lc ac : Nat} {L A : Option Addr} {t : Va} {xs : List Value} {vs : Nat → Value} {lo hi : Nat → Nat} (h : OwnVAt w (z + 1) L lc A ac t xs vs lo hi) (v : Value) : OwnVAt (w.setCell ⟨z, i, none⟩ v) (z + 1) L lc A ac t xs vs lo hi :=
  h.keep (by simp [World.setCell]) (fun g hg _ => Below.heap_setCell _ _ _ _ (by have := (h.row.lt g hg).1; show g ≠ z; omega)) (fun g hg _ => Below.heap_setCell _ _ _ _ (by have := (h.parts.own.lt g hg).1; show g ≠ z; omega))
    (fun i' hi' b hb _ => Below.heap_setCell _ _ _ _ (by have := (h.parts.low i' hi').1; have := hb.1; show b ≠ z; omega))
theorem OwnVAt.alloc {w : World} {base lc ac : Nat} {L A : Option Addr} {t : Va} {xs : List Value} {vs : Nat → Value} {lo hi : Nat → Nat} (h : OwnVAt w base L lc A ac t xs vs lo hi) (o : Obj) : OwnVAt (w.alloc o) base L lc A ac t xs vs lo hi :=
  h.keep (by simp) (fun g _ hl => Below.heap_alloc _ _ _ hl) (fun g _ hl => Below.heap_alloc _ _ _ hl) (fun _ _ b _ hl => Below.heap_alloc _ _ _ hl)
theorem OwnVAt.leaf (w : World) (base : Nat) (k n : Int) (nm : ByteArray) (hnm : nm.size ≤ maxLen) : ∃ xs vs lo hi, OwnVAt w base none 0 none 0 (.mk k n nm [] []) xs vs lo hi := by
  obtain ⟨xs, vs, lo, hi, hg⟩ := VGather.start w base []
  exact ⟨xs, vs, lo, hi, hnm, fun i h => absurd h (by simp [Va.labels]), Nat.zero_le _, World.ownsRow_nil w base _ 1, hg, fun gl h => by cases h⟩
end Go.Proofs.YtceclhndagoddaaGreatDoor

namespace Go.Proofs.YtceclhndagoddaaGreatDoor.V
open Go.RowKit

/-- The zero box of the result. -/
abbrev ZeroBox (w : World) (g : Nat) : Prop := Whole1 w g 27 #[.int .i64 0, .int .i64 0, .string ⟨#[]⟩, .slice none 0 0, .slice none 0 0]
/-- The struct under way, in block z; the reader in block p; the result's box in block r. -/
structure Making (w W : World) (p z r : Nat) (s : ByteArray) (j : Nat) (bad : Bool) (a b c : Value) : Prop where
  rd : RdAt W p s j bad
  box : Whole1 W z 27 #[a, .int .i64 0, .string ⟨#[]⟩, b, c]
  zero : ZeroBox W r
  grown : w.grownBy W (some p)
theorem Making.read {w W W' : World} {p z r j j' : Nat} {s : ByteArray} {bad bad' : Bool} {a b c : Value} (h : Making w W p z r s j bad a b c) (hr : RdAt W' p s j' bad') (hg : W.grownBy W' (some p)) (hz : z ≠ p) (hrp : r ≠ p) : Making w W' p z r s j' bad' a b c :=
  ⟨hr, (hg.block z h.box.lt (fun e => by injection e with e; exact hz e)).trans h.box, (hg.block r h.zero.lt (fun e => by injection e with e; exact hrp e)).trans h.zero, only_trans h.grown hg⟩
theorem Making.more {w W W' : World} {p z r j B : Nat} {s : ByteArray} {bad : Bool} {a b c : Value} (h : Making w W p z r s j bad a b c) (hb : Below B W W') (hz : z < B) (hr : r < B) (hp : p < B) (hB : w.heap.size ≤ B) : Making w W' p z r s j bad a b c :=
  ⟨h.rd.below hb hp, h.box.below hb hz, h.zero.below hb hr, grown_low h.grown hb hB⟩
theorem Making.put {w W : World} {p z r j : Nat} {s : ByteArray} {bad : Bool} {a b c : Value} (h : Making w W p z r s j bad a b c) (i : Nat) (v : Value) (hz : z ≠ p) (hr : z ≠ r) (hw : w.heap.size ≤ z) :
    RdAt (W.setCell ⟨z, i, none⟩ v) p s j bad ∧ Whole1 (W.setCell ⟨z, i, none⟩ v) z 27 (#[a, .int .i64 0, .string ⟨#[]⟩, b, c].setIfInBounds i v) ∧ ZeroBox (W.setCell ⟨z, i, none⟩ v) r ∧ w.grownBy (W.setCell ⟨z, i, none⟩ v) (some p) :=
  ⟨h.rd.block (Below.heap_setCell _ _ _ _ (fun e => hz e.symm)), h.box.set i v, (Below.heap_setCell _ _ _ _ (fun e => hr e.symm)).trans h.zero, grown_low h.grown ((Below.refl w.heap.size W).setCell hw v) (Nat.le_refl _)⟩
theorem Making.put1 {w W : World} {p z r j : Nat} {s : ByteArray} {bad : Bool} {a b c : Value} (h : Making w W p z r s j bad a b c) (v : Value) (hz : z ≠ p) (hr : z ≠ r) (hw : w.heap.size ≤ z) : Making w (W.setCell ⟨z, 3, none⟩ v) p z r s j bad a v c := by
  obtain ⟨h1, h2, h3, h4⟩ := h.put 3 v hz hr hw
  exact ⟨h1, h2, h3, h4⟩
theorem Making.put2 {w W : World} {p z r j : Nat} {s : ByteArray} {bad : Bool} {a b c : Value} (h : Making w W p z r s j bad a b c) (v : Value) (hz : z ≠ p) (hr : z ≠ r) (hw : w.heap.size ≤ z) : Making w (W.setCell ⟨z, 4, none⟩ v) p z r s j bad a b v := by
  obtain ⟨h1, h2, h3, h4⟩ := h.put 4 v hz hr hw
  exact ⟨h1, h2, h3, h4⟩

/-- An error: some value, the reader knows it. -/
def Bads (w : World) (p : Nat) (s : ByteArray) (e : Ending) (w' : World) : Prop :=
  ∃ x y nm L n lc A m ac j, e = .returned (.agg #[.int .i64 x, .int .i64 y, .string nm, .slice L n lc, .slice A m ac]) ∧ RdAt w' p s j true ∧ w.grownBy w' (some p)
/-- The value t; r is still to read. -/
def Goods (w : World) (p : Nat) (s : ByteArray) (t : Va) (r : List UInt8) (e : Ending) (w' : World) : Prop :=
  ∃ v j, e = .returned v ∧ r = restOf s j ∧ RdAt w' p s j false ∧ OwnVa w' w.heap.size v t ∧ w.grownBy w' (some p)
/-- The reading of a value of n levels at most. -/
structure TypeOne (n : Nat) (d : Int) : Prop where
  bad : ∀ (w : World) (p i : Nat) (s : ByteArray) (b : Bool), RdAt w p s i b → s.size ≤ 1048576 → (b = true ∨ rdVaS n (restOf s i) = none) → Calls Tryz.prog 26 #[.pointer (some ⟨p, 0, none⟩), .int .i64 d] w (Bads w p s)
  good : ∀ (w : World) (p i : Nat) (s : ByteArray) (t : Va) (r : List UInt8), RdAt w p s i false → s.size ≤ 1048576 → rdVaS n (restOf s i) = some (t, r) → Calls Tryz.prog 26 #[.pointer (some ⟨p, 0, none⟩), .int .i64 d] w (Goods w p s t r)

def glue (ls : List ByteArray) (ts : List Va) : Option (List ByteArray × List Va × List UInt8) → Option (List ByteArray × List Va × List UInt8)
  | none => none
  | some (a, b, q) => some (ls ++ a, ts ++ b, q)
theorem glue_nil (x : Option (List ByteArray × List Va × List UInt8)) : glue [] [] x = x := by
  cases x with
  | none => rfl
  | some v => rfl
theorem round_colon {f : List UInt8 → Option (Va × List UInt8)} {s : ByteArray} {j k fuel : Nat} {ls : List ByteArray} {ts : List Va} (hd : (restOf s j).dropWhile wordC = restOf s k) (hf : (restOf s j).length < fuel) (h : eat 61 (restOf s k) = none) : glue ls ts (rdLabE f fuel (restOf s j)) = none := by
  obtain ⟨m, rfl⟩ : ∃ m, fuel = m + 1 := ⟨fuel - 1, by omega⟩
  rw [rdLabE, hd, h]
  rfl
theorem round_type {f : List UInt8 → Option (Va × List UInt8)} {s : ByteArray} {j k fuel : Nat} {ls : List ByteArray} {ts : List Va} (hd : (restOf s j).dropWhile wordC = restOf s k) (hf : (restOf s j).length < fuel) (h : eat 61 (restOf s k) = some (restOf s (k + 1))) (ht : f (restOf s (k + 1)) = none) : glue ls ts (rdLabE f fuel (restOf s j)) = none := by
  obtain ⟨m, rfl⟩ : ∃ m, fuel = m + 1 := ⟨fuel - 1, by omega⟩
  rw [rdLabE, hd, h]
  simp only [ht]
  rfl
theorem round_last {f : List UInt8 → Option (Va × List UInt8)} {s e : ByteArray} {j k fuel : Nat} {ls : List ByteArray} {ts : List Va} {t : Va} {r : List UInt8} (hd : (restOf s j).dropWhile wordC = restOf s k) (he : (⟨((restOf s j).takeWhile wordC).toArray⟩ : ByteArray) = e) (hf : (restOf s j).length < fuel) (h : eat 61 (restOf s k) = some (restOf s (k + 1))) (ht : f (restOf s (k + 1)) = some (t, r)) (hc : eat 44 r = none) :
    glue ls ts (rdLabE f fuel (restOf s j)) = some (ls ++ [e], ts ++ [t], r) := by
  obtain ⟨m, rfl⟩ : ∃ m, fuel = m + 1 := ⟨fuel - 1, by omega⟩
  rw [rdLabE, hd, h]
  simp only [ht, hc, he]
  rfl
theorem round_more {f : List UInt8 → Option (Va × List UInt8)} {s e : ByteArray} {j k fuel : Nat} {ls : List ByteArray} {ts : List Va} {t : Va} {r r2 : List UInt8} (hd : (restOf s j).dropWhile wordC = restOf s k) (he : (⟨((restOf s j).takeWhile wordC).toArray⟩ : ByteArray) = e) (hf : (restOf s j).length < fuel) (h : eat 61 (restOf s k) = some (restOf s (k + 1))) (ht : f (restOf s (k + 1)) = some (t, r)) (hc : eat 44 r = some r2) :
    glue ls ts (rdLabE f fuel (restOf s j)) = glue (ls ++ [e]) (ts ++ [t]) (rdLabE f (fuel - 1) r2) := by
  obtain ⟨m, rfl⟩ : ∃ m, fuel = m + 1 := ⟨fuel - 1, by omega⟩
  rw [rdLabE, hd, h, Nat.add_sub_cancel]
  simp only [ht, hc, he]
  cases rdLabE f m r2 with
  | none => rfl
  | some v => simp [glue]
def glueL (ts : List Va) : Option (List Va × List UInt8) → Option (List Va × List UInt8)
  | none => none
  | some (b, q) => some (ts ++ b, q)
theorem glueL_nil (x : Option (List Va × List UInt8)) : glueL [] x = x := by
  cases x with
  | none => rfl
  | some v => rfl
theorem roundL_type {f : List UInt8 → Option (Va × List UInt8)} {s : ByteArray} {j fuel : Nat} {ts : List Va} (hf : (restOf s j).length < fuel) (ht : f (restOf s j) = none) : glueL ts (rdSeq f fuel (restOf s j)) = none := by
  obtain ⟨m, rfl⟩ : ∃ m, fuel = m + 1 := ⟨fuel - 1, by omega⟩
  rw [rdSeq, ht]
  rfl
theorem roundL_last {f : List UInt8 → Option (Va × List UInt8)} {s : ByteArray} {j fuel : Nat} {ts : List Va} {t : Va} {r : List UInt8} (hf : (restOf s j).length < fuel) (ht : f (restOf s j) = some (t, r)) (hc : eat 44 r = none) :
    glueL ts (rdSeq f fuel (restOf s j)) = some (ts ++ [t], r) := by
  obtain ⟨m, rfl⟩ : ∃ m, fuel = m + 1 := ⟨fuel - 1, by omega⟩
  rw [rdSeq, ht]
  simp only [hc]
  rfl
theorem roundL_more {f : List UInt8 → Option (Va × List UInt8)} {s : ByteArray} {j fuel : Nat} {ts : List Va} {t : Va} {r r2 : List UInt8} (hf : (restOf s j).length < fuel) (ht : f (restOf s j) = some (t, r)) (hc : eat 44 r = some r2) :
    glueL ts (rdSeq f fuel (restOf s j)) = glueL (ts ++ [t]) (rdSeq f (fuel - 1) r2) := by
  obtain ⟨m, rfl⟩ : ∃ m, fuel = m + 1 := ⟨fuel - 1, by omega⟩
  rw [rdSeq, ht, Nat.add_sub_cancel]
  simp only [hc]
  cases rdSeq f m r2 with
  | none => rfl
  | some v => simp [glueL]
theorem rdVaS_pos (n : Nat) (l : List UInt8) (t : Va) (r : List UInt8) (h : rdVaS n l = some (t, r)) : r.length < l.length := by
  have h1 := rdVa_sound n _ _ _ (rdVaS_to n _ _ _ h)
  have h2 := txtV_pos t
  rw [h1, List.length_append]
  omega
end Go.Proofs.YtceclhndagoddaaGreatDoor.V
end

section
namespace Go.Proofs.YtceclhndagoddaaGreatDoor
set_option maxRecDepth 100000
open Go.RowKit
attribute [local go_sem ↓] Go.wp_at_zero Go.wp_at_succ

end Go.Proofs.YtceclhndagoddaaGreatDoor
end
