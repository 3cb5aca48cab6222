/- Contracts of the kit's shelf at this program: HasPrefix, TrimLeftFunc. -/
import Derived.Shelf.Strings.Prefix
import Derived.Shelf.GgClosure.StringsRunes
import Derived.Test.YtmacbkcjeamaeaaProg
import Derived.OrdersHeld
import Derived.RegionTactic
import Derived.Lib.Hide
import Derived.Test.YtmacbkcjeamaeaaReadStep
import Derived.Test.YtmacbkcjeamaeaaImplIsName
import Derived.Deep.RegionHeld3
import Derived.Deep.DeepCutAuto
import Derived.Deep.AppendLies

namespace Go.Proofs
open Go.Shelf
def Try.laysPrefix_ren : Go.Shelf.Ren := ⟨fun | 99 => 73 | 206 => 97 | n => n, fun | 9 => 9 | 3 => 3 | 4 => 4 | n => n, fun | n => n⟩
theorem Try.laysPrefix : Go.Proofs.Lays.n99 Try.prog Try.laysPrefix_ren := {
  mixed := by kernel_rfl
  f99 := Try.func73.trans (congrArg some (by kernel_rfl))
  f206 := Try.func97.trans (congrArg some (by kernel_rfl))
  t3 := Try.underlying3
  a3 := Try.isAgg3
  z3 := Try.sizeOf3
  v3 := Try.zeroValue3
  t4 := Try.underlying4
  a4 := Try.isAgg4
  z4 := Try.sizeOf4
  v4 := Try.zeroValue4
  t9 := Try.underlying9
  a9 := Try.isAgg9
  z9 := Try.sizeOf9
  v9 := Try.zeroValue9 }
def Try.laysTrimL_ren : Go.Shelf.Ren := ⟨fun | 272 => 75 | 315 => 98 | n => n, fun | 9 => 9 | 3 => 3 | 4 => 4 | 0 => 0 | 21 => 21 | 40 => 100 | n => n, fun | n => n⟩
theorem Try.laysTrimL : Go.Proofs.Lays.n272 Try.prog Try.laysTrimL_ren := {
  mixed := by kernel_rfl
  f272 := Try.func75.trans (congrArg some (by kernel_rfl))
  f315 := Try.func98.trans (congrArg some (by kernel_rfl))
  t0 := Try.underlying0
  a0 := Try.isAgg0
  z0 := Try.sizeOf0
  v0 := Try.zeroValue0
  t3 := Try.underlying3
  a3 := Try.isAgg3
  z3 := Try.sizeOf3
  v3 := Try.zeroValue3
  t4 := Try.underlying4
  a4 := Try.isAgg4
  z4 := Try.sizeOf4
  v4 := Try.zeroValue4
  t9 := Try.underlying9
  a9 := Try.isAgg9
  z9 := Try.sizeOf9
  v9 := Try.zeroValue9
  t21 := Try.underlying21
  a21 := Try.isAgg21
  z21 := Try.sizeOf21
  v21 := Try.zeroValue21
  t40 := Try.underlying100
  a40 := Try.isAgg100
  z40 := Try.sizeOf100
  v40 := Try.zeroValue100 }
end Go.Proofs

namespace Go.Proofs.Ytmacbkcjeamaeaa
open Go

section
variable {P : Program} {md : Region.Mode} {ops : Array Oper} {Q : Exit → Act → World → Prop} {S : World → Prop} {ks : List Nat}

/-- All of ks have come up. -/
def Up (ks : List Nat) (listed : Array Bool) : Prop := ∀ k ∈ ks, listed.getD k false = true

/-- Whatever order is picked: S holds behind each operation until all of ks have come up. -/
def wpUntil (P : Program) (md : Region.Mode) (ops : Array Oper) (Q : Exit → Act → World → Prop) (S : World → Prop) (ks : List Nat) : Nat → Array Bool → Act → World → Prop
  | 0, listed, a, w => Region.ready md ops listed = [] ∧ Q .normal a w
  | f + 1, listed, a, w => (Region.ready md ops listed = [] → Q .normal a w) ∧
      ∀ i ∈ Region.ready md ops listed, wpOp P ops Q i (fun a' w' => (Up ks (listed.setIfInBounds i true) ∨ S w') ∧ wpUntil P md ops Q S ks f (listed.setIfInBounds i true) a' w') a w

theorem any_of_until : ∀ (f : Nat) (listed : Array Bool) (a : Act) (w : World), wpUntil P md ops Q S ks f listed a w → wpAny P md ops Q f listed a w
  | 0, _, _, _, h => h
  | f + 1, _, _, _, h => ⟨h.1, fun i hi => wpOp_mono (fun a' w' h' => any_of_until f _ a' w' h'.2) (h.2 i hi)⟩

theorem not_after {i : Nat} {listed : Array Bool} {oj : Oper} (hi : i ∈ Region.ready md ops listed) (hall : ∀ e ∈ oj.after, Region.binds md e = true → listed.getD e.on false = true) : ∀ e ∈ oj.after, Region.binds md e = true → e.on ≠ i := fun e he hb heq => by
  have h1 := hall e he hb
  have h0 := (mem_ready.1 hi).1
  rw [heq] at h1
  rcases Nat.lt_or_ge i listed.size with h | h
  · simp [h] at h0 h1
    rw [h0] at h1
    cases h1
  · simp [Array.getElem?_eq_none h] at h1

/-- An operation that yields in whatever world, and is none of ks, may be taken first. -/
theorem until_any {i : Nat} {oi : Oper} {v : Value} (hi : ops[i]? = some oi) (hsel : ∀ (j : Nat) (o : Oper) cs b, ops[j]? = some o → o.op ≠ .select cs b) (hQ : ∀ c a w, Q (.panic c) (a.put oi.dst v) w → Q (.panic c) a w) (hks : i ∉ ks) :
    ∀ (f : Nat) (listed : Array Bool) (a : Act) (w : World), (∀ j oj, ops[j]? = some oj → j ≠ i → listed.getD j true = false → (∀ e ∈ oj.after, Region.binds md e = true → e.on ≠ i) → oi.apart ops oj = true) →
      i ∈ Region.ready md ops listed → YieldsIf P ops (fun _ => True) oi v a → (Up ks listed ∨ S w) → wpUntil P md ops Q S ks f (listed.setIfInBounds i true) (a.put oi.dst v) w → wpUntil P md ops Q S ks (f + 1) listed a w := by
  have up : ∀ l : Array Bool, Up ks (l.setIfInBounds i true) → Up ks l := fun l h k hk => by
    have hne : i ≠ k := fun e => hks (e ▸ hk)
    have := h k hk
    rwa [getD_set_ne false hne] at this
  have up' : ∀ l : Array Bool, Up ks l → Up ks (l.setIfInBounds i true) := fun l h k hk => getD_set_true (h k hk)
  intro f
  induction f with
  | zero =>
    intro listed a w _ hr hy hS H
    refine ⟨fun h => (by rw [h] at hr; cases hr), fun j hj => ?_⟩
    by_cases hji : j = i
    · subst hji
      exact hy.wpOp hi trivial ⟨hS.imp (up' _) id, H⟩
    · have := ready_mono hj hji
      rw [H.1] at this
      cases this
  | succ f ih =>
    intro listed a w hfree hr hy hS H
    refine ⟨fun h => (by rw [h] at hr; cases hr), fun j hj => ?_⟩
    by_cases hji : j = i
    · subst hji
      exact hy.wpOp hi trivial ⟨hS.imp (up' _) id, H⟩
    · have h1 := H.2 j (ready_mono hj hji)
      obtain ⟨hjun, oj, hoj, hall⟩ := mem_ready.1 hj
      have h2 := wpOp_putIf hoj (hfree j oj hoj hji hjun (not_after hr hall)) (fun cs b => hsel i oi cs b hi) (fun cs b => hsel j oj cs b hoj) hQ hy h1
      have hfree' : ∀ k ok, ops[k]? = some ok → k ≠ i → (listed.setIfInBounds j true).getD k true = false → (∀ e ∈ ok.after, Region.binds md e = true → e.on ≠ i) → oi.apart ops ok = true := fun k ok hk hki hun hno => by
        refine hfree k ok hk hki ?_ hno
        by_cases hjk : j = k
        · subst hjk
          exact hjun
        · rwa [getD_set_ne true hjk] at hun
      refine wpOp_mono (fun a' w' h3 => ?_) h2
      have h4 := h3.2
      rw [Array.setIfInBounds_comm _ _ (Ne.symm hji)] at h4
      have hs := h4.1.imp (up _) id
      exact ⟨hs, ih (listed.setIfInBounds j true) a' w' hfree' (ready_mono hr (Ne.symm hji)) h3.1 hs h4.2⟩

/-- An operation that yields in every world that meets S may be taken first, if one of ks waits for it. -/
theorem until_held {i k : Nat} {oi ok : Oper} {v : Value} (hi : ops[i]? = some oi) (hsel : ∀ (j : Nat) (o : Oper) cs b, ops[j]? = some o → o.op ≠ .select cs b) (hQ : ∀ c a w, Q (.panic c) (a.put oi.dst v) w → Q (.panic c) a w)
    (hk : k ∈ ks) (hki : i ≠ k) (hok : ops[k]? = some ok) (hwait : ∃ e ∈ ok.after, Region.binds md e = true ∧ e.on = i) :
    ∀ (f : Nat) (listed : Array Bool) (a : Act) (w : World), (∀ j oj, ops[j]? = some oj → j ≠ i → listed.getD j true = false → (∀ e ∈ oj.after, Region.binds md e = true → e.on ≠ i) → oi.apart ops oj = true) →
      i ∈ Region.ready md ops listed → listed.getD k false = false → YieldsIf P ops S oi v a → S w → wpUntil P md ops Q S ks f (listed.setIfInBounds i true) (a.put oi.dst v) w → wpUntil P md ops Q S ks (f + 1) listed a w := by
  intro f
  induction f with
  | zero =>
    intro listed a w _ hr _ hy hS H
    refine ⟨fun h => (by rw [h] at hr; cases hr), fun j hj => ?_⟩
    by_cases hji : j = i
    · subst hji
      exact hy.wpOp hi hS ⟨Or.inr hS, H⟩
    · have := ready_mono hj hji
      rw [H.1] at this
      cases this
  | succ f ih =>
    intro listed a w hfree hr hun hy hS H
    refine ⟨fun h => (by rw [h] at hr; cases hr), fun j hj => ?_⟩
    by_cases hji : j = i
    · subst hji
      exact hy.wpOp hi hS ⟨Or.inr hS, H⟩
    · have h1 := H.2 j (ready_mono hj hji)
      obtain ⟨hjun, oj, hoj, hall⟩ := mem_ready.1 hj
      have hnot := not_after hr hall
      have hjk : j ≠ k := fun e => by
        subst e
        have : oj = ok := Option.some.inj (hoj.symm.trans hok)
        subst this
        obtain ⟨e, he, hb, hon⟩ := hwait
        exact hnot e he hb hon
      have h2 := wpOp_putIf hoj (hfree j oj hoj hji hjun hnot) (fun cs b => hsel i oi cs b hi) (fun cs b => hsel j oj cs b hoj) hQ hy h1
      have hfree' : ∀ k ok, ops[k]? = some ok → k ≠ i → (listed.setIfInBounds j true).getD k true = false → (∀ e ∈ ok.after, Region.binds md e = true → e.on ≠ i) → oi.apart ops ok = true := fun k ok hk hki hun hno => by
        refine hfree k ok hk hki ?_ hno
        by_cases hjk : j = k
        · subst hjk
          exact hjun
        · rwa [getD_set_ne true hjk] at hun
      have hun' : (listed.setIfInBounds j true).getD k false = false := by rwa [getD_set_ne false hjk]
      refine wpOp_mono (fun a' w' h3 => ?_) h2
      have h4 := h3.2
      have hs : S w' := h4.1.resolve_left fun hu => by
        have := hu k hk
        rw [getD_set_ne false hjk, getD_set_ne false hki, hun] at this
        cases this
      rw [Array.setIfInBounds_comm _ _ (Ne.symm hji)] at h4
      exact ⟨Or.inr hs, ih (listed.setIfInBounds j true) a' w' hfree' (ready_mono hr (Ne.symm hji)) hun' h3.1 hs h4.2⟩

/-- Does k wait for i? -/
def waits (md : Region.Mode) (ops : Array Oper) (k i : Nat) : Bool := match ops[k]? with | some ok => ok.after.any (fun e => Region.binds md e && e.on == i) | none => false
theorem waits_spec {k i : Nat} (h : waits md ops k i = true) : ∃ ok, ops[k]? = some ok ∧ ∃ e ∈ ok.after, Region.binds md e = true ∧ e.on = i := by
  unfold waits at h
  split at h
  · rename_i ok hk
    obtain ⟨e, he, hb⟩ := Array.any_eq_true'.1 h
    simp only [Bool.and_eq_true, beq_iff_eq] at hb
    exact ⟨ok, hk, e, he, hb.1, hb.2⟩
  · cases h

theorem take_any {i : Nat} {oi : Oper} {v : Value} {f : Nat} {listed : Array Bool} {a : Act} {w : World} (hi : ops[i]? = some oi) (hs : Region.noSelect ops = true) (hf : Region.free md ops listed i = true) (hr : (Region.ready md ops listed).contains i = true) (hks : ks.contains i = false)
    (hQ : ∀ c a w, Q (.panic c) (a.put oi.dst v) w → Q (.panic c) a w) (hS : Up ks listed ∨ S w) (hy : Region.wanted oi (yielded ops a.tmps) = true ∧ ∀ w, (execOp a.eval oi).run P w = .ok (.value v) w) (h : wpUntil P md ops Q S ks f (listed.setIfInBounds i true) (a.put oi.dst v) w) : wpUntil P md ops Q S ks (f + 1) listed a w :=
  until_any hi (Region.noSelect_spec hs) hQ (by simpa using hks) f listed a w (Region.free_spec hi hf) (by simpa using hr) (Or.inl ⟨hy.1, fun w _ => hy.2 w⟩) hS h
theorem take_held {i : Nat} (k : Nat) {oi : Oper} {v : Value} {f : Nat} {listed : Array Bool} {a : Act} {w : World} (hi : ops[i]? = some oi) (hs : Region.noSelect ops = true) (hf : Region.free md ops listed i = true) (hr : (Region.ready md ops listed).contains i = true) (hk : ks.contains k = true) (hki : decide (i ≠ k) = true) (hw : waits md ops k i = true) (hun : listed.getD k false = false)
    (hQ : ∀ c a w, Q (.panic c) (a.put oi.dst v) w → Q (.panic c) a w) (hS : S w) (hy : Region.wanted oi (yielded ops a.tmps) = true ∧ ∀ w, S w → (execOp a.eval oi).run P w = .ok (.value v) w) (h : wpUntil P md ops Q S ks f (listed.setIfInBounds i true) (a.put oi.dst v) w) : wpUntil P md ops Q S ks (f + 1) listed a w := by
  obtain ⟨ok, hok, hwait⟩ := waits_spec hw
  exact until_held hi (Region.noSelect_spec hs) hQ (by simpa using hk) (by simpa using hki) hok hwait f listed a w (Region.free_spec hi hf) (by simpa using hr) hun (Or.inl hy) hS h

/-- Those that may come up, one after another. -/
def Turns (P : Program) (md : Region.Mode) (ops : Array Oper) (Q : Exit → Act → World → Prop) (S : World → Prop) (ks : List Nat) (f : Nat) (listed : Array Bool) (a : Act) (w : World) (rs : List Nat) : Prop :=
  ∀ i ∈ rs, wpOp P ops Q i (fun a' w' => (Up ks (listed.setIfInBounds i true) ∨ S w') ∧ wpUntil P md ops Q S ks f (listed.setIfInBounds i true) a' w') a w
theorem turns {rs : List Nat} {f : Nat} {listed : Array Bool} {a : Act} {w : World} (hr : Region.ready md ops listed = rs) (hne : rs.isEmpty = false) (h : Turns P md ops Q S ks f listed a w rs) : wpUntil P md ops Q S ks (f + 1) listed a w :=
by
  refine ⟨fun h0 => ?_, ?_⟩
  · rw [hr] at h0
    rw [h0] at hne
    cases hne
  · rw [hr]
    exact h
theorem Turns.nil {f : Nat} {listed : Array Bool} {a : Act} {w : World} : Turns P md ops Q S ks f listed a w [] := fun _ h => by cases h
theorem Turns.cons {f : Nat} {listed : Array Bool} {a : Act} {w : World} {i : Nat} {o : Oper} {rs : List Nat} (ho : ops[i]? = some o)
    (h : ∀ K : Act → World → Prop, RowKit.Hid (∀ a w, (Up ks (listed.setIfInBounds i true) ∨ S w) → wpUntil P md ops Q S ks f (listed.setIfInBounds i true) a w → K a w) → if Region.wanted o (yielded ops a.tmps) = true then Oper.wp P o a w K Q else K (a.put o.dst undef) w)
    (hs : Turns P md ops Q S ks f listed a w rs) : Turns P md ops Q S ks f listed a w (i :: rs) := fun j hj => by
  rcases List.mem_cons.1 hj with rfl | hj
  · exact wpOp_step ho fun K hK => h K (Lib.hid fun a w h1 h2 => hK a w ⟨h1, h2⟩)
  · exact hs j hj
theorem until_done {f : Nat} {listed : Array Bool} {a : Act} {w : World} (hr : Region.ready md ops listed = []) (h : Q .normal a w) : wpUntil P md ops Q S ks f listed a w := by
  cases f with
  | zero => exact ⟨hr, h⟩
  | succ f => exact ⟨fun _ => h, by rw [hr]; simp⟩
def upB (ks : List Nat) (listed : Array Bool) : Bool := ks.all fun k => listed.getD k false
theorem up_of {listed : Array Bool} (h : upB ks listed = true) : Up ks listed := fun k hk => List.all_eq_true.1 h k hk
theorem region_until (S : World → Prop) (ks : List Nat) {id : Nat} {a : Act} {w : World} (hm : P.follows .mixedOrders = true) (h : wpUntil P .any ops Q S ks ops.size (Array.replicate ops.size false) a w.drew) : (Code.region id ops true).wp P Q a w :=
  wp_region_any hm (any_of_until _ _ _ _ h)
end

end Go.Proofs.Ytmacbkcjeamaeaa

namespace Go.Proofs.Ytmacbkcjeamaeaa
open Go.RowKit

/-- The reader's variables: the text in block ps, the place in block pa. -/
structure RAt (w : World) (ps pa : Nat) (s : ByteArray) (i : Nat) : Prop where
  str : Whole1 w ps 9 #[.string s]
  place : Whole1 w pa 3 #[.int .i64 (i : Int)]
  ne : ps ≠ pa
  le : i ≤ s.size
theorem RAt.lts {w : World} {ps pa i : Nat} {s : ByteArray} (h : RAt w ps pa s i) : ps < w.heap.size := Whole1.lt h.str
theorem RAt.lta {w : World} {ps pa i : Nat} {s : ByteArray} (h : RAt w ps pa s i) : pa < w.heap.size := Whole1.lt h.place
theorem RAt.below {w w' : World} {ps pa i B : Nat} {s : ByteArray} (h : RAt w ps pa s i) (hb : Below B w w') (hs : ps < B) (ha : pa < B) : RAt w' ps pa s i := ⟨h.str.below hb hs, h.place.below hb ha, h.ne, h.le⟩
theorem RAt.drewN {w : World} {ps pa i : Nat} {s : ByteArray} (h : RAt w ps pa s i) (n : Nat) : RAt (w.drewN n) ps pa s i := ⟨h.str, h.place, h.ne, h.le⟩
theorem RAt.seti {w : World} {ps pa i : Nat} {s : ByteArray} (h : RAt w ps pa s i) (j : Nat) (hj : j ≤ s.size) : RAt (w.setCell ⟨pa, 0, none⟩ (.int .i64 (j : Int))) ps pa s j :=
  ⟨(Below.heap_setCell _ _ _ _ h.ne).trans h.str, Whole1.set h.place 0 _, h.ne, hj⟩
/-- The place of the reader. -/
def placeAt (w : World) (pa : Nat) : Nat := match w.cell? ⟨pa, 0, none⟩ with | some v => (intOf v).toNat | none => 0
theorem RAt.where {w : World} {ps pa i : Nat} {s : ByteArray} (h : RAt w ps pa s i) : placeAt w pa = i := by
  have c1 : w.cell? ⟨pa, 0, none⟩ = some (.int .i64 (i : Int)) := Whole1.cell h.place 0
  unfold placeAt
  rw [c1]
  simp [intOf]

/-- The reader: three function values. -/
abbrev rdAcc (ps pa : Nat) : Value := .func (.func 72) #[] #[.pointer (some ⟨ps, 0, none⟩), .pointer (some ⟨pa, 0, none⟩)]
abbrev rdTak (ps pa : Nat) : Value := .func (.func 74) #[] #[.pointer (some ⟨pa, 0, none⟩), .pointer (some ⟨ps, 0, none⟩)]
abbrev rdEnd (ps pa : Nat) : Value := .func (.func 77) #[] #[.pointer (some ⟨pa, 0, none⟩), .pointer (some ⟨ps, 0, none⟩)]

theorem rest_extract (s : ByteArray) (i : Nat) : (s.extract i s.size).data.toList = restOf s i := by
  unfold restOf
  rw [ByteArray.data_extract, Array.toList_extract, List.extract_eq_take_drop]
  exact List.take_of_length_le (by simp)
theorem prefix_eat (c : UInt8) (l : List UInt8) : Lib.hasPrefix l [c] = (eat c l).isSome := by
  unfold Lib.hasPrefix
  cases l with
  | nil => rfl
  | cons x r =>
    by_cases h : x = c
    · subst h
      simp [eat]
    · have hb : (c == x) = false := by
        rw [beq_eq_false_iff_ne]
        exact fun e => h e.symm
      rw [eat, if_neg h]
      show ((c == x) && _) = _
      rw [hb]
      rfl

/-- The answer v; the place is j. -/
def ReadR (w : World) (ps pa : Nat) (s : ByteArray) (v : Value) (j : Nat) (e : Ending) (w' : World) : Prop := e = .returned v ∧ RAt w' ps pa s j ∧ w.grownBy w' (some pa)

set_option maxHeartbeats 1000000 in
theorem acc_yes (ps pa i : Nat) (s : ByteArray) (c : UInt8) (w : World) (h : RAt w ps pa s i) (hs : s.size ≤ 1048576) (hi : i < s.size) (hc : s[i] = c) :
    Calls Try.prog 72 #[.string ⟨#[c]⟩, .pointer (some ⟨ps, 0, none⟩), .pointer (some ⟨pa, 0, none⟩)] w (ReadR w ps pa s (.bool true) (i + 1)) := by
  have c0 : w.cell? ⟨ps, 0, none⟩ = some (.string s) := Whole1.cell h.str 0
  have c1 : w.cell? ⟨pa, 0, none⟩ = some (.int .i64 (i : Int)) := Whole1.cell h.place 0
  have f1 : w.frozen? ⟨pa, 0, none⟩ = false := Whole1.free h.place 0
  have hwr : IntKind.i64.wrap ((i : Int) + 1) = (i : Int) + 1 := by rw [IntKind.wrap_i64]; omega
  have hl1 : (0 : Int) ≤ (i : Int) := by omega
  have hl2 : (i : Int) ≤ (s.size : Int) := by omega
  have HP := Any.strings_HasPrefix Try.laysPrefix (s.extract i s.size) ⟨#[c]⟩ w
  rw [rest_extract, prefix_eat, eat_at c s i hi, if_pos hc] at HP
  have HP := Lib.hid HP
  have HH := Lib.hid h
  clear h hc
  go_enter Try.func72, Try.ntmps72
  go_wp2_with fail
  refine HP.out.mono ?_
  rintro e w1 ⟨rfl, rfl⟩
  go_wp2
  go_ret
  exact ⟨rfl, HH.out.seti (i + 1) (by omega), only_set (only_refl _ _) 0 _⟩

set_option maxHeartbeats 1000000 in
theorem acc_no (ps pa i : Nat) (s : ByteArray) (c : UInt8) (w : World) (h : RAt w ps pa s i) (hc : eat c (restOf s i) = none) :
    Calls Try.prog 72 #[.string ⟨#[c]⟩, .pointer (some ⟨ps, 0, none⟩), .pointer (some ⟨pa, 0, none⟩)] w (ReadR w ps pa s (.bool false) i) := by
  have c0 : w.cell? ⟨ps, 0, none⟩ = some (.string s) := Whole1.cell h.str 0
  have c1 : w.cell? ⟨pa, 0, none⟩ = some (.int .i64 (i : Int)) := Whole1.cell h.place 0
  have hl1 : (0 : Int) ≤ (i : Int) := by omega
  have hl2 : (i : Int) ≤ (s.size : Int) := by have := h.le; omega
  have HP := Any.strings_HasPrefix Try.laysPrefix (s.extract i s.size) ⟨#[c]⟩ w
  rw [rest_extract, prefix_eat, hc] at HP
  have HP := Lib.hid HP
  have HH := Lib.hid h
  clear h hc
  go_enter Try.func72, Try.ntmps72
  go_wp2_with fail
  refine HP.out.mono ?_
  rintro e w1 ⟨rfl, rfl⟩
  go_wp2
  go_ret
  exact ⟨rfl, HH.out, only_refl _ _⟩

set_option maxHeartbeats 1000000 in
theorem end_any (ps pa i : Nat) (s : ByteArray) (w : World) (h : RAt w ps pa s i) :
    Calls Try.prog 77 #[.pointer (some ⟨pa, 0, none⟩), .pointer (some ⟨ps, 0, none⟩)] w fun e w' => e = .returned (.bool (decide (i = s.size))) ∧ w = w' := by
  have c0 : w.cell? ⟨ps, 0, none⟩ = some (.string s) := Whole1.cell h.str 0
  have c1 : w.cell? ⟨pa, 0, none⟩ = some (.int .i64 (i : Int)) := Whole1.cell h.place 0
  by_cases he : i = s.size
  · have hq : ((i : Int) == (s.size : Int)) = true := by simp [he]
    have hd := Lib.hid (decide_eq_true he)
    clear h he
    go_enter Try.func77, Try.ntmps77
    go_wp2
    go_ret
    exact ⟨by rw [hd.out]; rfl, rfl⟩
  · have hq : ((i : Int) == (s.size : Int)) = false := by rw [beq_eq_false_iff_ne]; omega
    have hd := Lib.hid (decide_eq_false he)
    clear h he
    go_enter Try.func77, Try.ntmps77
    go_wp2
    go_ret
    exact ⟨by rw [hd.out]; rfl, rfl⟩

/-- A rune of names. -/
def nameR (r : Nat) : Bool := (decide (48 ≤ r) && decide (r ≤ 57)) || (decide (97 ≤ r) && decide (r ≤ 122))

set_option maxHeartbeats 1000000 in
theorem nameRune_any (r : Nat) (w : World) :
    Calls Try.prog 100 #[.int .i32 (r : Int)] w fun e w' => e = .returned (.bool (nameR r)) ∧ w = w' := by
  by_cases h1 : 97 ≤ r ∧ r ≤ 122
  · have HL := Lib.hid (letter_yes (r : Int) w (by omega) (by omega))
    have hn : Hid (nameR r = true) := Lib.hid (by unfold nameR; simp [h1])
    clear h1
    go_enter Try.func100, Try.ntmps100
    go_wp2_with fail
    refine HL.out.mono ?_
    rintro e w1 ⟨rfl, rfl⟩
    go_wp2
    go_ret
    exact ⟨by rw [hn.out]; rfl, rfl⟩
  · have HL := Lib.hid (letter_no (r : Int) w (by omega))
    by_cases h2 : 48 ≤ r ∧ r ≤ 57
    · have HD := Lib.hid (digit_yes (r : Int) w (by omega) (by omega))
      have hn : Hid (nameR r = true) := Lib.hid (by unfold nameR; simp [h2])
      clear h1 h2
      go_enter Try.func100, Try.ntmps100
      go_wp2_with fail
      refine HL.out.mono ?_
      rintro e w1 ⟨rfl, rfl⟩
      go_wp2_with fail
      refine HD.out.mono ?_
      rintro e w1 ⟨rfl, rfl⟩
      go_wp2
      go_ret
      exact ⟨by rw [hn.out]; rfl, rfl⟩
    · have HD := Lib.hid (digit_no (r : Int) w (by omega))
      have hn : Hid (nameR r = false) := Lib.hid (by unfold nameR; simp; omega)
      clear h1 h2
      go_enter Try.func100, Try.ntmps100
      go_wp2_with fail
      refine HL.out.mono ?_
      rintro e w1 ⟨rfl, rfl⟩
      go_wp2_with fail
      refine HD.out.mono ?_
      rintro e w1 ⟨rfl, rfl⟩
      go_wp2
      go_ret
      exact ⟨by rw [hn.out]; rfl, rfl⟩

theorem nameR_byte (c : UInt8) : nameR c.toNat = wordC c := rfl
theorem nameR_high (r : Nat) (h : 128 ≤ r) : nameR r = false := by
  unfold nameR
  simp
  omega
theorem wordC_high (c : UInt8) (h : 128 ≤ c.toNat) : wordC c = false := by
  rw [← nameR_byte]
  exact nameR_high _ h

/-- The first byte that is none of a name's. -/
theorem idx_word (u : ByteArray) : ∀ (f pos : Nat), u.size ≤ pos + f → pos ≤ u.size → ∃ k, pos ≤ k ∧ k ≤ u.size ∧ (∀ m, (h : m < u.size) → pos ≤ m → m < k → wordC u[m] = true) ∧ (∀ h : k < u.size, wordC u[k] = false) ∧
    Lib.idxFuncFrom nameR false u f pos = if k < u.size then (k : Int) else -1 := by
  intro f
  induction f with
  | zero =>
    intro pos h1 h2
    obtain rfl : pos = u.size := by omega
    exact ⟨u.size, Nat.le_refl _, Nat.le_refl _, fun m h a b => absurd h (by omega), fun h => absurd h (Nat.lt_irrefl _), by rw [if_neg (Nat.lt_irrefl _)]; rfl⟩
  | succ f ih =>
    intro pos h1 h2
    by_cases hlt : pos < u.size
    · obtain ⟨r, wd, hd, h3, h4, h5, _⟩ := decode_cases u pos hlt
      have stop : nameR r = false → wordC u[pos] = false → ∃ k, pos ≤ k ∧ k ≤ u.size ∧ (∀ m, (h : m < u.size) → pos ≤ m → m < k → wordC u[m] = true) ∧ (∀ h : k < u.size, wordC u[k] = false) ∧
          Lib.idxFuncFrom nameR false u (f + 1) pos = if k < u.size then (k : Int) else -1 := fun hr hw =>
        ⟨pos, Nat.le_refl _, h2, fun m _ a b => absurd b (by omega), fun _ => hw, by rw [Lib.idxFuncFrom, if_pos hlt, if_pos hlt, hd, if_pos hr]⟩
      by_cases hr : r < 128
      · obtain ⟨rfl, rfl⟩ := h4 hr
        cases hw : wordC u[pos] with
        | false => exact stop (by rw [nameR_byte]; exact hw) hw
        | true =>
          obtain ⟨k, g1, g2, g3, g4, g5⟩ := ih (pos + 1) (by omega) (by omega)
          refine ⟨k, by omega, g2, fun m hm a b => ?_, g4, ?_⟩
          · by_cases e : m = pos
            · subst e
              exact hw
            · exact g3 m hm (by omega) b
          · rw [Lib.idxFuncFrom, if_pos hlt, hd, if_neg (by rw [nameR_byte, hw]; simp)]
            exact g5
      · exact stop (nameR_high r (by omega)) (wordC_high _ (h5 (by omega)))
    · obtain rfl : pos = u.size := by omega
      exact ⟨u.size, Nat.le_refl _, Nat.le_refl _, fun m h a b => absurd h (by omega), fun h => absurd h (Nat.lt_irrefl _), by rw [Lib.idxFuncFrom_end _ _ _ _ _ hlt, if_neg hlt]⟩

theorem trim_word (s : ByteArray) (i : Nat) (hi : i ≤ s.size) : ∃ k, i ≤ k ∧ k ≤ s.size ∧ (Lib.trimLeftF nameR (s.extract i s.size)).size = s.size - k ∧ (restOf s i).dropWhile wordC = restOf s k ∧ (⟨((restOf s i).takeWhile wordC).toArray⟩ : ByteArray) = s.extract i k := by
  have hus : (s.extract i s.size).size = s.size - i := by rw [ByteArray.size_extract]; omega
  obtain ⟨k, _, h2, h3, h4, h5⟩ := idx_word (s.extract i s.size) (s.extract i s.size).size 0 (by omega) (by omega)
  have hget : ∀ m, (h : m < (s.extract i s.size).size) → (s.extract i s.size)[m] = s[i + m]'(by omega) := fun m h => by
    rw [ByteArray.getElem_extract]
  refine ⟨i + k, by omega, by omega, ?_, word_end s (i + k) (by omega) (fun h => ?_) k i rfl (fun m h a => ?_)⟩
  · unfold Lib.trimLeftF Lib.idxFunc
    rw [h5]
    by_cases hk : k < (s.extract i s.size).size
    · rw [if_pos hk, if_neg (by omega), ByteArray.size_extract]
      omega
    · rw [if_neg hk, if_pos rfl]
      show 0 = _
      omega
  · have := h4 (by omega)
    rw [hget] at this
    exact this
  · have := h3 (m - i) (by omega) (Nat.zero_le _) (by omega)
    rw [hget] at this
    have e : i + (m - i) = m := by omega
    simp only [e] at this
    exact this

theorem rd_below {w w' : World} (h : Below w.drew.heap.size w.drew w') : Below w.heap.size w w' := (Below.refl w.heap.size w).drew.trans h
theorem RAt.wgrown {w w' : World} {ps pa i : Nat} {s : ByteArray} (_ : RAt w ps pa s i) (hb : Below w.heap.size w w') : w.grownBy w' (some pa) := only_below (only_refl w (some pa)) hb
theorem pred_name (w : World) : PredAtRunes Try.prog 100 #[] nameR w := fun W x _ _ =>
  (nameRune_any x W).mono fun _ _ ⟨h1, h2⟩ => ⟨h1, 0, h2.symm⟩
theorem enters_name : ∀ args w, (callFunc 100 args).run Try.prog w = .ok (.enter 100 args) w := enters_of Try.func100 (by kernel_rfl) rfl

/-- The word from i on is handed back; the reader stands behind it. -/
def WordR (w : World) (ps pa : Nat) (s : ByteArray) (i : Nat) (e : Ending) (w' : World) : Prop :=
  ∃ k, i ≤ k ∧ ReadR w ps pa s (.string (s.extract i k)) k e w' ∧ (restOf s i).dropWhile wordC = restOf s k ∧ (⟨((restOf s i).takeWhile wordC).toArray⟩ : ByteArray) = s.extract i k

set_option maxHeartbeats 4000000 in
theorem takeAll_any (ps pa i : Nat) (s : ByteArray) (w : World) (h : RAt w ps pa s i) (hs : s.size ≤ 1048576) :
    Calls Try.prog 74 #[.func (.func 100) #[] #[], .pointer (some ⟨pa, 0, none⟩), .pointer (some ⟨ps, 0, none⟩)] w (WordR w ps pa s i) := by
  have c0 : w.cell? ⟨ps, 0, none⟩ = some (.string s) := Whole1.cell h.str 0
  have c1 : w.cell? ⟨pa, 0, none⟩ = some (.int .i64 (i : Int)) := Whole1.cell h.place 0
  obtain ⟨k, hik, hks, htr, hdrop, htake⟩ := trim_word s i h.le
  have hl1 : (0 : Int) ≤ (i : Int) := by omega
  have hl2 : (i : Int) ≤ (s.size : Int) := by have := h.le; omega
  have hl3 : (i : Int) ≤ (k : Int) := by omega
  have hl4 : (k : Int) ≤ (s.size : Int) := by omega
  have hlk : (0 : Int) ≤ (k : Int) := by omega
  have hT : Calls Try.prog 75 #[.string (s.extract i s.size), .func (.func 100) #[] #[]] w.drew fun e w' => e = .returned (.string (Lib.trimLeftF nameR (s.extract i s.size))) ∧ Below w.drew.heap.size w.drew w' :=
    Any.strings_TrimLeftFunc_runes Try.laysTrimL 100 #[] enters_name nameR (s.extract i s.size) w.drew (pred_name _)
  generalize Lib.trimLeftF nameR (s.extract i s.size) = tr at *
  have hwr : IntKind.i64.wrap ((s.size : Int) - (tr.size : Int)) = (k : Int) := by rw [IntKind.wrap_i64, htr]; omega
  have HT := Lib.hid hT
  have HD := Lib.hid (And.intro hdrop htake)
  have HH := Lib.hid h
  have hps := h.lts
  have hpa := h.lta
  clear h hT hdrop htake htr
  go_enter Try.func74, Try.ntmps74
  go_upto_region 2 with fail
  go_region_held3 (fun x : World => x.cell? ⟨ps, 0, none⟩ = some (.string s)) (first | assumption | go_keep)
    (first
      | (go_simp; go_at_call 75; (with_reducible refine HT.out.mono ?_); rintro e w1 ⟨rfl, hb'⟩; have hb := rd_below hb'; have hR := HH.out.below hb hps hpa; have d0 : w1.cell? ⟨ps, 0, none⟩ = some (.string s) := Whole1.cell hR.str 0; have d1 : w1.cell? ⟨pa, 0, none⟩ = some (.int .i64 (i : Int)) := Whole1.cell hR.place 0; have g1 : w1.frozen? ⟨pa, 0, none⟩ = false := Whole1.free hR.place 0; have HR := Lib.hid (hR.seti k hks); have HG := Lib.hid (only_set (HH.out.wgrown hb) 0 (.int .i64 (k : Int))); have x0 : (w1.setCell ⟨pa, 0, none⟩ (.int .i64 (k : Int))).cell? ⟨ps, 0, none⟩ = some (.string s) := Whole1.cell HR.out.str 0; clear hR hb hb'))
  have x1 : (w1.setCell ⟨pa, 0, none⟩ (.int .i64 (k : Int))).cell? ⟨pa, 0, none⟩ = some (.int .i64 (k : Int)) := Whole1.cell HR.out.place 0
  clear d0 d1 g1
  generalize w1.setCell ⟨pa, 0, none⟩ (.int .i64 (k : Int)) = w2 at *
  have HC := Lib.hid (clone_any (s.extract i k) w2 (by rw [ByteArray.size_extract]; omega))
  go_wp2_with fail
  refine HC.out.mono ?_
  rintro e w3 ⟨rfl, hb3⟩
  go_wp2
  go_ret
  exact ⟨k, hik, ⟨rfl, HR.out.below hb3 HR.out.lts HR.out.lta, only_below HG.out hb3⟩, HD.out⟩
end Go.Proofs.Ytmacbkcjeamaeaa

namespace Go.Proofs.Ytmacbkcjeamaeaa
open Go.RowKit

/-- No tree: some value, and false. -/
def FailR (w : World) (ps pa : Nat) (s : ByteArray) (e : Ending) (w' : World) : Prop :=
  ∃ x L n lc A m ac j, e = .returned (.tuple #[.agg #[.int .i64 x, .slice L n lc, .slice A m ac], .bool false]) ∧ RAt w' ps pa s j ∧ w.grownBy w' (some pa)
/-- The tree t; r is still to read. -/
def DoneR (w : World) (ps pa : Nat) (s : ByteArray) (t : Ty) (r : List UInt8) (e : Ending) (w' : World) : Prop :=
  ∃ v j, e = .returned (.tuple #[v, .bool true]) ∧ r = restOf s j ∧ RAt w' ps pa s j ∧ OwnTy w' w.heap.size v t ∧ w.grownBy w' (some pa)
/-- A reading does what the model does. -/
def DoesR (x : Option (Ty × List UInt8)) (w : World) (ps pa : Nat) (s : ByteArray) (e : Ending) (w' : World) : Prop := (x = none ∧ FailR w ps pa s e w') ∨ ∃ t r, x = some (t, r) ∧ DoneR w ps pa s t r e w'
/-- The reading of a tree of n levels at most. -/
def TypeR (n : Nat) (d : Int) : Prop :=
  ∀ (w : World) (ps pa i : Nat) (s : ByteArray), RAt w ps pa s i → s.size ≤ 1048576 → Calls Try.prog 38 #[.agg #[rdAcc ps pa, rdTak ps pa, rdEnd ps pa], .int .i64 d] w (DoesR (rdTy n (restOf s i)) w ps pa s)

/-- The struct under way, in block z; the reader's struct in block z - 2, the result's box in block z - 1. -/
structure MakeR (w W : World) (ps pa z : Nat) (s : ByteArray) (j : Nat) (a b c : Value) : Prop where
  rd : RAt W ps pa s j
  rdr : Whole1 W w.heap.size 55 #[rdAcc ps pa, rdTak ps pa, rdEnd ps pa]
  zero : ZeroBox W (w.heap.size + 1)
  box : Whole1 W z 27 #[a, b, c]
  grown : w.grownBy W (some pa)
  hz : z = w.heap.size + 1 + 1
  hs : ps < w.heap.size
  ha : pa < w.heap.size

section
variable {w W W' : World} {ps pa z j j' B : Nat} {s : ByteArray} {a b c : Value}
theorem MakeR.read (h : MakeR w W ps pa z s j a b c) (hr : RAt W' ps pa s j') (hg : W.grownBy W' (some pa)) : MakeR w W' ps pa z s j' a b c := by
  have ha := h.ha
  have hz := h.hz
  exact ⟨hr, (hg.block _ h.rdr.lt (fun e => by injection e with e; omega)).trans h.rdr, (hg.block _ h.zero.lt (fun e => by injection e with e; omega)).trans h.zero, (hg.block z h.box.lt (fun e => by injection e with e; omega)).trans h.box, only_trans h.grown hg, hz, h.hs, ha⟩
theorem MakeR.more (h : MakeR w W ps pa z s j a b c) (hb : Below B W W') (hB : z < B) : MakeR w W' ps pa z s j a b c := by
  have ha := h.ha
  have hz := h.hz
  have hs := h.hs
  exact ⟨h.rd.below hb (by omega) (by omega), h.rdr.below hb (by omega), h.zero.below hb (by omega), h.box.below hb hB, grown_low h.grown hb (by omega), hz, hs, ha⟩
theorem MakeR.put (h : MakeR w W ps pa z s j a b c) (i : Nat) (v : Value) : RAt (W.setCell ⟨z, i, none⟩ v) ps pa s j ∧ Whole1 (W.setCell ⟨z, i, none⟩ v) w.heap.size 55 #[rdAcc ps pa, rdTak ps pa, rdEnd ps pa] ∧ ZeroBox (W.setCell ⟨z, i, none⟩ v) (w.heap.size + 1) ∧ Whole1 (W.setCell ⟨z, i, none⟩ v) z 27 (#[a, b, c].setIfInBounds i v) ∧ w.grownBy (W.setCell ⟨z, i, none⟩ v) (some pa) := by
  have ha := h.ha
  have hz := h.hz
  have hs := h.hs
  exact ⟨⟨(Below.heap_setCell _ _ _ _ (by show ps ≠ z; omega)).trans h.rd.str, (Below.heap_setCell _ _ _ _ (by show pa ≠ z; omega)).trans h.rd.place, h.rd.ne, h.rd.le⟩, (Below.heap_setCell _ _ _ _ (by show w.heap.size ≠ z; omega)).trans h.rdr, (Below.heap_setCell _ _ _ _ (by show w.heap.size + 1 ≠ z; omega)).trans h.zero, h.box.set i v, grown_low h.grown ((Below.refl w.heap.size W).setCell (show w.heap.size ≤ z by omega) v) (Nat.le_refl _)⟩
theorem MakeR.put1 (h : MakeR w W ps pa z s j a b c) (v : Value) : MakeR w (W.setCell ⟨z, 1, none⟩ v) ps pa z s j a v c := by
  obtain ⟨h1, h2, h3, h4, h5⟩ := h.put 1 v
  exact ⟨h1, h2, h3, h4, h5, h.hz, h.hs, h.ha⟩
theorem MakeR.put2 (h : MakeR w W ps pa z s j a b c) (v : Value) : MakeR w (W.setCell ⟨z, 2, none⟩ v) ps pa z s j a b v := by
  obtain ⟨h1, h2, h3, h4, h5⟩ := h.put 2 v
  exact ⟨h1, h2, h3, h4, h5, h.hz, h.hs, h.ha⟩
end


theorem set3_kept (w : World) (r : Nat) (a b c : Value) (g : Nat) (hg : g ≠ r) : (((w.setCell ⟨r, 0, none⟩ a).setCell ⟨r, 1, none⟩ b).setCell ⟨r, 2, none⟩ c).heap[g]? = w.heap[g]? := by
  rw [Below.heap_setCell _ _ _ _ hg, Below.heap_setCell _ _ _ _ hg, Below.heap_setCell _ _ _ _ hg]
theorem RAt.set3 {w : World} {ps pa i r : Nat} {s : ByteArray} (h : RAt w ps pa s i) (hs : ps ≠ r) (ha : pa ≠ r) (a b c : Value) : RAt (((w.setCell ⟨r, 0, none⟩ a).setCell ⟨r, 1, none⟩ b).setCell ⟨r, 2, none⟩ c) ps pa s i :=
  ⟨(set3_kept _ _ _ _ _ _ hs).trans h.str, (set3_kept _ _ _ _ _ _ ha).trans h.place, h.ne, h.le⟩
theorem failR_of {w W : World} {ps pa j r : Nat} {s : ByteArray} (h : RAt W ps pa s j) (hg : w.grownBy W (some pa)) (hs : ps < w.heap.size) (ha : pa < w.heap.size) (hr : w.heap.size ≤ r) (x : Int) (L A : Option Addr) (n lc m ac : Nat) (a b c : Value) :
    FailR w ps pa s (.returned (.tuple #[.agg #[.int .i64 x, .slice L n lc, .slice A m ac], .bool false])) (((W.setCell ⟨r, 0, none⟩ a).setCell ⟨r, 1, none⟩ b).setCell ⟨r, 2, none⟩ c) :=
  ⟨x, L, n, lc, A, m, ac, j, rfl, h.set3 (by omega) (by omega) a b c, box_grown hg hr a b c⟩
theorem doneR_of {w W : World} {ps pa j r B : Nat} {s : ByteArray} {v : Value} {t : Ty} (h : RAt W ps pa s j) (hg : w.grownBy W (some pa)) (hs : ps < w.heap.size) (ha : pa < w.heap.size) (hr : w.heap.size ≤ r) (hO : OwnTy W B v t) (hB : r < B) (a b c : Value) :
    DoneR w ps pa s t (restOf s j) (.returned (.tuple #[v, .bool true])) (((W.setCell ⟨r, 0, none⟩ a).setCell ⟨r, 1, none⟩ b).setCell ⟨r, 2, none⟩ c) :=
  ⟨v, j, rfl, rfl, h.set3 (by omega) (by omega) a b c, (hO.keep (by simp [World.setCell]) (fun g hg _ => set3_kept _ _ _ _ _ _ (by omega))).base (by omega), box_grown hg hr a b c⟩
theorem MakeR.fail {w W : World} {ps pa z j : Nat} {s : ByteArray} {a b c : Value} (h : MakeR w W ps pa z s j a b c) (a' b' c' : Value) :
    FailR w ps pa s (.returned (.tuple #[.agg #[.int .i64 0, .slice none 0 0, .slice none 0 0], .bool false])) (((W.setCell ⟨w.heap.size + 1, 0, none⟩ a').setCell ⟨w.heap.size + 1, 1, none⟩ b').setCell ⟨w.heap.size + 1, 2, none⟩ c') :=
  failR_of h.rd h.grown h.hs h.ha (by omega) 0 none none 0 0 0 0 a' b' c'
end Go.Proofs.Ytmacbkcjeamaeaa

namespace Go.Proofs.Ytmacbkcjeamaeaa
open Go.RowKit

/-- A tree that lies there already is appended. -/
theorem OwnAt.arg2 {w w3 : World} {base lc ac lo0 hi0 : Nat} {L A : Option Addr} {t : Ty} {xs : List Value} {vs : Nat → Value} {lo hi : Nat → Nat} {g cap : Nat} {a b c : Value} (h : OwnAt w base L lc A ac t xs vs lo hi) (u : Ty) (h0 : base ≤ lo0) (h1 : hi0 ≤ w.heap.size) (hm : t.args.length + 1 ≤ maxLen)
    (hu : TyIn w (Span lo0 hi0) (.agg #[a, b, c]) u) (hpl : ∀ i, i < t.args.length → hi i ≤ lo0) (hL : ∀ q, L = some ⟨q, 0, none⟩ → ¬ Span lo0 hi0 q) (hA : ∀ q, A = some ⟨q, 0, none⟩ → ¬ Span lo0 hi0 q)
    (hown : w3.ownsRow base 27 3 (.slice (some ⟨g, 0, none⟩) (t.args.length + 1) cap) (t.args.length + 1) (xs ++ [a, b, c])) (hg : w.grownBy w3 (Value.slice A t.args.length ac).ownBlock) (hat : (Value.slice A t.args.length ac).ownBlock = some g ∨ w.heap.size ≤ g) :
    OwnAt w3 base L lc (some ⟨g, 0, none⟩) cap (.mk t.kind t.labels (t.args ++ [u])) (xs ++ [a, b, c]) (fun i => if i = t.args.length then .agg #[a, b, c] else vs i) (fun i => if i = t.args.length then lo0 else lo i) (fun i => if i = t.args.length then hi0 else hi i) := by
  have hs3 := hg.size
  have e1 : (t.args ++ [u]).length = t.args.length + 1 := by simp
  have hxl : xs.length = t.args.length * 3 := h.parts.own.1
  have hAo : ∀ q, (Value.slice A t.args.length ac).ownBlock = some q → A = some ⟨q, 0, none⟩ := fun q hq => own_addr h.parts.own q hq
  have hkeep : ∀ q, q < w.heap.size → (Value.slice A t.args.length ac).ownBlock ≠ some q → w3.heap[q]? = w.heap[q]? := fun q hq hne => hg.block q hq (fun e => hne e.symm)
  have hLk : ∀ q, (Value.slice L t.labels.length lc).ownBlock = some q → w3.heap[q]? = w.heap[q]? := fun q hq =>
    hkeep q (h.row.lt q hq).2 fun e => (h.far q (own_addr h.row q hq)).1 (hAo q e)
  refine ⟨h.size, by show (t.args ++ [u]).length ≤ maxLen; omega, own_keep1 h.row hLk, ?_, fun gl hgl => ?_⟩
  · show GatherAt w3 base (.slice _ (t.args ++ [u]).length cap) (t.args ++ [u]).length (t.args ++ [u]) _ _ _ _
    rw [e1]
    refine ⟨hown, fun i hi' j hj => ?_, fun i hi' => ?_, fun i j hij hj => ?_, fun i hi' q hq => ?_, fun i hi' hik => ?_⟩
    · by_cases e : i = t.args.length
      · subst e
        rw [if_pos rfl, List.getElem?_append_right (by omega), hxl]
        have : j = 0 ∨ j = 1 ∨ j = 2 := by omega
        rcases this with rfl | rfl | rfl
        · simp [partAt]
        · simp [partAt]
        · simp [partAt]
      · rw [if_neg e, List.getElem?_append_left (by omega)]
        exact h.parts.cells i (by omega) j hj
    · by_cases e : i = t.args.length
      · rw [if_pos e, if_pos e]
        omega
      · rw [if_neg e, if_neg e]
        have := h.parts.low i (by omega)
        omega
    · rw [if_neg (show i ≠ t.args.length by omega)]
      by_cases e : j = t.args.length
      · rw [if_pos e]
        exact hpl i (by omega)
      · rw [if_neg e]
        exact h.parts.apart i j hij (by omega)
    · have hqg : q = g := (Option.some.inj hq).symm
      subst hqg
      by_cases e : i = t.args.length
      · rw [if_pos e, if_pos e]
        rcases hat with hat | hat
        · exact hA q (hAo q hat)
        · intro hs
          have := hs.2
          omega
      · rw [if_neg e, if_neg e]
        rcases hat with hat | hat
        · exact h.parts.free i (by omega) q hat
        · intro hs
          have := hs.2
          have := (h.parts.low i (by omega)).2
          omega
    · by_cases e : i = t.args.length
      · subst e
        rw [if_pos rfl, if_pos rfl, if_pos rfl]
        have e2 : (t.args ++ [u])[t.args.length] = u := by simp
        rw [e2]
        refine hu.keep fun q hq hql => hkeep q (by have := hq.2; omega) fun hv => hA q (hAo q hv) hq
      · rw [if_neg e, if_neg e, if_neg e]
        have e2 : (t.args ++ [u])[i] = t.args[i]'(by omega) := List.getElem_append_left (by omega)
        rw [e2]
        exact (h.parts.kids i (by omega) (by omega)).keep fun q hq hql => hkeep q hql fun hv => h.parts.free i (by omega) q hv hq
  · have hlt : gl < w.heap.size := (h.row.lt gl (by rw [hgl]; rfl)).2
    refine ⟨fun e => ?_, fun i hi' hsp => ?_⟩
    · have eg : g = gl := by injection e with e; injection e
      subst eg
      rcases hat with hat | hat
      · exact (h.far g hgl).1 (hAo g hat)
      · omega
    · have hi2 : i < t.args.length + 1 := by rw [← e1]; exact hi'
      by_cases e : i = t.args.length
      · simp only [e, if_true] at hsp
        exact hL gl hgl hsp
      · simp only [e, if_false] at hsp
        exact (h.far gl hgl).2 i (by omega) hsp

/-- Midway: the struct's cells are as they were; rows, tree and box. -/
structure RMid (w W : World) (ps pa z : Nat) (s : ByteArray) (j : Nat) (a b c : Value) (lo0 qa : Nat) (q : Array Value) (v : Value) (u : Ty) (L : Option Addr) (lc : Nat) (A : Option Addr) (ac : Nat) (t : Ty) (xs : List Value) (vs : Nat → Value) (lo hi : Nat → Nat) : Prop where
  make : MakeR w W ps pa z s j a b c
  own : OwnAt W (z + 1) L lc A ac t xs vs lo hi
  tree : TyIn W (Span lo0 qa) v u
  box : Whole1 W qa 27 q
  zlo : z < lo0
  lq : lo0 ≤ qa

section
variable {w W : World} {ps pa z j lo0 qa lc ac : Nat} {s : ByteArray} {a b c v : Value} {q : Array Value} {u t : Ty} {L A : Option Addr} {xs : List Value} {vs : Nat → Value} {lo hi : Nat → Nat}
theorem RMid.alloc (h : RMid w W ps pa z s j a b c lo0 qa q v u L lc A ac t xs vs lo hi) (o : Obj) : RMid w (W.alloc o) ps pa z s j a b c lo0 qa q v u L lc A ac t xs vs lo hi := by
  have hb := (Below.refl W.heap.size W).alloc (Nat.le_refl _) o
  exact ⟨h.make.more hb h.make.box.lt, h.own.alloc o, h.tree.keep fun q _ hl => hb.block q hl, h.box.below hb h.box.lt, h.zlo, h.lq⟩
theorem RMid.drew (h : RMid w W ps pa z s j a b c lo0 qa q v u L lc A ac t xs vs lo hi) : RMid w W.drew ps pa z s j a b c lo0 qa q v u L lc A ac t xs vs lo hi := by
  have hb : Below W.heap.size W W.drew := (Below.refl W.heap.size W).drew
  exact ⟨h.make.more hb h.make.box.lt, h.own.keep (Nat.le_refl _) (fun _ _ _ => rfl) (fun _ _ _ => rfl) (fun _ _ _ _ _ => rfl), h.tree.keep fun _ _ _ => rfl, h.box, h.zlo, h.lq⟩
theorem RMid.row (h : RMid w W ps pa z s j a b c lo0 qa q v u L lc A ac t xs vs lo hi) {w' : World} {row : Option Nat} (hg : W.grownBy w' row) (hlow : ∀ g, row = some g → z < g ∧ g < lo0) : MakeR w w' ps pa z s j a b c ∧ TyIn w' (Span lo0 qa) v u ∧ Whole1 w' qa 27 q ∧ ∀ b, lo0 ≤ b → b < W.heap.size → w'.heap[b]? = W.heap[b]? := by
  have keep : ∀ b, b < W.heap.size → (b ≤ z ∨ lo0 ≤ b) → w'.heap[b]? = W.heap[b]? := fun b hb hz => hg.block b hb fun e => by
    have := hlow b e.symm
    omega
  have hb : Below (z + 1) W w' := ⟨hg.os, hg.tape, hg.output, hg.size, fun b hbz => keep b (by have := h.make.box.lt; omega) (by omega)⟩
  exact ⟨h.make.more hb (Nat.lt_succ_self _), h.tree.keep fun b hb hl => keep b hl (Or.inr hb.1), (keep qa h.box.lt (Or.inr h.lq)).trans h.box, fun b hb hl => keep b hl (Or.inr hb)⟩
end

section
variable {w W : World} {ps pa z j lo0 qa lc ac : Nat} {s : ByteArray} {a b c v : Value} {q : Array Value} {k0 : Int} {u : Ty} {ls : List ByteArray} {ts : List Ty} {L A : Option Addr} {xs : List Value} {vs : Nat → Value} {lo hi : Nat → Nat}
/-- A label is appended. -/
theorem RMid.label {ops : Array Oper} {o : Oper} {ac' : Act} {K : Act → World → Prop} {Q : Exit → Act → World → Prop} {E : Prop} (hgd : o.guard = none) (x y : Operand)
    (ho : o.op = .call { callee := .builtin .append, args := #[x, y], argTypes := #[24, 24] }) (h : RMid w W ps pa z s j a b c lo0 qa q v u L lc A ac (.mk k0 ls ts) xs vs lo hi) (hx : ac'.eval x = .slice L ls.length lc)
    (e : ByteArray) (n : Nat) (hy : ac'.eval y = .slice (some ⟨n, 0, none⟩) 1 1) (hn : Whole1 W n 9 #[.string e]) (he : e.size ≤ 1048576) (hlen : ls.length ≤ 1048576) (hL : ∀ g, L = some ⟨g, 0, none⟩ → g < lo0)
    (hk : ∀ (g cap : Nat) (w' : World), RMid w w' ps pa z s j a b c lo0 qa q v u (some ⟨g, 0, none⟩) cap A ac (.mk k0 (ls ++ [e]) ts) xs vs lo hi → (∀ b, lo0 ≤ b → b < W.heap.size → w'.heap[b]? = W.heap[b]?) → W.heap.size ≤ w'.heap.size → (g < lo0 ∨ qa < g) → K (ac'.put o.dst (.slice (some ⟨g, 0, none⟩) (ls.length + 1) cap)) w') :
    if Region.wanted o (yielded ops ac'.tmps) = true then Oper.wp Try.prog o ac' W K Q else E := by
  obtain ⟨i0, hi0, hz0, hz1, hz2⟩ := info_parts infoString
  have hzl := h.make.box.lt
  have hql := h.box.lt
  refine step_append_lies W hgd x y _ ho (z + 1) 9 i0 (.string ⟨#[]⟩) 1 16 Try.underlying24 hi0 hz0 hz1 hz2 rfl (by decide) _ ls.length (strVals ls) hx h.own.row ⟨n, 0, none⟩ 1 1 [.string e] hy rfl
    (World.news_of_block (cs := #[.string e]) hn) (fun u hu => by simp at hu; subst hu; rfl) (by omega) (by unfold maxLen; omega) (by omega) (by omega) W.heap.size rfl fun g cap w' hown hg hat _ => ?_
  have hlow : ∀ g, (Value.slice L ls.length lc).ownBlock = some g → z < g ∧ g < lo0 := fun g hg' => by
    have h1 := h.own.row.lt g hg'
    exact ⟨by omega, hL g (own_addr h.own.row g hg')⟩
  obtain ⟨m1, m2, m3, m4⟩ := h.row hg hlow
  exact hk g cap w' ⟨m1, h.own.label e (by unfold maxLen; omega) hown hg (hat.imp id (fun e => Nat.le_of_eq e.symm)), m2, m3, h.zlo, h.lq⟩ m4 hg.size (hat.imp (fun e => (hlow g e).2) (fun e => by omega))

/-- A tree is appended. -/
theorem RMid.arg {ops : Array Oper} {o : Oper} {ac' : Act} {K : Act → World → Prop} {Q : Exit → Act → World → Prop} {E : Prop} (hgd : o.guard = none) (x y : Operand)
    (ho : o.op = .call { callee := .builtin .append, args := #[x, y], argTypes := #[25, 25] }) {v0 v1 v2 : Value} (h : RMid w W ps pa z s j a b c lo0 qa q (.agg #[v0, v1, v2]) u L lc A ac (.mk k0 ls ts) xs vs lo hi) (hx : ac'.eval x = .slice A ts.length ac)
    (n : Nat) (hy : ac'.eval y = .slice (some ⟨n, 0, none⟩) 1 1) (hn : Whole1 W n 27 #[v0, v1, v2]) (h1 : v0.oneCell' = true ∧ v1.oneCell' = true ∧ v2.oneCell' = true) (hlen : ts.length ≤ 1048576) (hL : ∀ g, L = some ⟨g, 0, none⟩ → g < lo0 ∨ qa < g) (hA : ∀ g, A = some ⟨g, 0, none⟩ → g < lo0) (hpl : ∀ i, i < ts.length → hi i ≤ lo0)
    (hk : ∀ (g cap : Nat) (w' : World), RMid w w' ps pa z s j a b c lo0 qa q (.agg #[v0, v1, v2]) u L lc (some ⟨g, 0, none⟩) cap (.mk k0 ls (ts ++ [u])) (xs ++ [v0, v1, v2]) (fun i => if i = ts.length then .agg #[v0, v1, v2] else vs i) (fun i => if i = ts.length then lo0 else lo i) (fun i => if i = ts.length then qa else hi i) → (∀ b, lo0 ≤ b → b < W.heap.size → w'.heap[b]? = W.heap[b]?) → W.heap.size ≤ w'.heap.size → K (ac'.put o.dst (.slice (some ⟨g, 0, none⟩) (ts.length + 1) cap)) w') :
    if Region.wanted o (yielded ops ac'.tmps) = true then Oper.wp Try.prog o ac' W K Q else E := by
  obtain ⟨i1, hi1, hy0, hy1, hy2⟩ := info_parts infoType
  have hzl := h.make.box.lt
  have hql := h.box.lt
  have hzlo := h.zlo
  refine step_append_lies W hgd x y _ ho (z + 1) 27 i1 (.agg #[.int .i64 0, .slice none 0 0, .slice none 0 0]) 3 56 Try.underlying25 hi1 hy0 hy1 hy2 rfl (by decide) _ ts.length xs hx h.own.parts.own ⟨n, 0, none⟩ 1 1 [v0, v1, v2] hy rfl
    (World.news_of_block (cs := #[v0, v1, v2]) hn) (fun u hu => ?_) (by omega) (by unfold maxLen; omega) (by omega) (by omega) W.heap.size rfl fun g cap w' hown hg hat _ => ?_
  · simp at hu
    rcases hu with rfl | rfl | rfl
    · exact h1.1
    · exact h1.2.1
    · exact h1.2.2
  have hlow : ∀ g, (Value.slice A ts.length ac).ownBlock = some g → z < g ∧ g < lo0 := fun g hg' => by
    have h1 := h.own.parts.own.lt g hg'
    exact ⟨by omega, hA g (own_addr h.own.parts.own g hg')⟩
  obtain ⟨m1, m2, m3, m4⟩ := h.row hg hlow
  exact hk g cap w' ⟨m1, h.own.arg2 u (by omega) (by omega) (by unfold maxLen; show ts.length + 1 ≤ _; omega) h.tree hpl (fun g hg' hs => by have := hL g hg'; have := hs.1; have := hs.2; omega) (fun g hg' hs => by have := hA g hg'; have := hs.1; omega) hown hg (hat.imp id (fun e => Nat.le_of_eq e.symm)), m2, m3, h.zlo, h.lq⟩ m4 hg.size
end

end Go.Proofs.Ytmacbkcjeamaeaa
