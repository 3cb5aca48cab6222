/- Kinds of optics and types of optics, as functions. -/
import Derived.Test.YthdfidhijmcbdaaGreatDoorSpecOtForm
import Derived.Test.YthdfidhijmcbdaaGreatDoorSpecPart
namespace Go.Proofs.YthdfidhijmcbdaaGreatDoor
open Go.RowKit

def isKindB (k : Int) : Bool := decide (1 ≤ k ∧ k ≤ 5)
def withinB (a b : Int) : Bool := isKindB a && isKindB b && (decide (a = b) || decide (a = 1) || decide (b = 5) || (decide (b = 4) && decide (a < b)))
def joinI (a b : Int) : Int := if isKindB a && isKindB b then (if withinB a b then b else if withinB b a then a else 4) else 0
def kindTextB (k : Int) : ByteArray := if k = 1 then ⟨#[105, 115, 111]⟩ else if k = 2 then ⟨#[108, 101, 110, 115]⟩ else if k = 3 then ⟨#[112, 114, 105, 115, 109]⟩ else if k = 4 then ⟨#[97, 102, 102, 105, 110, 101]⟩ else if k = 5 then ⟨#[116, 114, 97, 118, 101, 114, 115, 97, 108]⟩ else ⟨#[63]⟩
def fociLoI (k : Int) : Int := if k = 1 ∨ k = 2 then 1 else 0
def fociHiI (k : Int) : Int := if 1 ≤ k ∧ k ≤ 4 then 1 else if k = 5 then -1 else 0

theorem five {k : Int} (h : isKindB k = true) : k = 1 ∨ k = 2 ∨ k = 3 ∨ k = 4 ∨ k = 5 := by
  have := of_decide_eq_true h
  omega
theorem withinB_kinds {a b : Int} (h : withinB a b = true) : isKindB a = true ∧ isKindB b = true := by
  unfold withinB at h
  simp only [Bool.and_eq_true] at h
  exact h.1
theorem joinI_comm (a b : Int) : joinI a b = joinI b a := by
  by_cases ha : isKindB a = true
  · by_cases hb : isKindB b = true
    · rcases five ha with rfl | rfl | rfl | rfl | rfl <;> rcases five hb with rfl | rfl | rfl | rfl | rfl <;> rfl
    · have hb' : isKindB b = false := by simpa using hb
      simp [joinI, hb']
  · have ha' : isKindB a = false := by simpa using ha
    simp [joinI, ha']
theorem joinI_none {a b : Int} (h : (isKindB a && isKindB b) = false) : joinI a b = 0 := by simp [joinI, h]
theorem joinI_above {a b : Int} (ha : isKindB a = true) (hb : isKindB b = true) : withinB a (joinI a b) = true ∧ withinB b (joinI a b) = true := by
  rcases five ha with rfl | rfl | rfl | rfl | rfl <;> rcases five hb with rfl | rfl | rfl | rfl | rfl <;> exact ⟨rfl, rfl⟩
theorem withinB_both {a b : Int} (h1 : withinB a b = true) (h2 : withinB b a = true) : a = b := by
  obtain ⟨ha, hb⟩ := withinB_kinds h1
  rcases five ha with rfl | rfl | rfl | rfl | rfl <;> rcases five hb with rfl | rfl | rfl | rfl | rfl <;> first | rfl | exact absurd h1 (by decide) | exact absurd h2 (by decide)
theorem joinI_least {a b c : Int} (h1 : withinB a c = true) (h2 : withinB b c = true) : withinB (joinI a b) c = true := by
  obtain ⟨ha, hc⟩ := withinB_kinds h1
  obtain ⟨hb, _⟩ := withinB_kinds h2
  rcases five ha with rfl | rfl | rfl | rfl | rfl <;> rcases five hb with rfl | rfl | rfl | rfl | rfl <;> rcases five hc with rfl | rfl | rfl | rfl | rfl <;> first | rfl | exact absurd h1 (by decide) | exact absurd h2 (by decide)

/-- What an optic without parts leads to. -/
noncomputable def leafO (k : Int) (nm : ByteArray) (s : Ty) : Option (Ty × Int) :=
  if k = 1 then some (s, 1)
  else if k = 2 then (if s.kind = 3 then (partB s nm).map (·, 2) else none)
  else if k = 3 then (if s.kind = 4 then (partB s nm).map (·, 3) else none)
  else if k = 4 then (if s.kind = 5 then s.args[0]?.map (·, 5) else none)
  else if k = 5 then (if uniformB s then s.args[0]?.map (·, 5) else none)
  else if k = 6 then (if s.kind = 5 then s.args[0]?.map (·, 4) else none)
  else if k = 7 then (if s.kind = 1 then some (s, 1) else none)
  else if k = 8 then (if s.kind = 2 then some (s, 1) else none)
  else if k = 9 then (if s.kind = 5 then some (s, 1) else none)
  else if k = 10 then some (.mk 3 [nm] [s], 1)
  else none

/-- One after the other. -/
def thenO (f g : Ty → Option (Ty × Int)) (s : Ty) : Option (Ty × Int) :=
  match f s with
  | none => none
  | some (a, one) => match g a with
    | none => none
    | some (b, two) => some (b, joinI one two)
/-- The one or the other. -/
noncomputable def elseO (f g : Ty → Option (Ty × Int)) (s : Ty) : Option (Ty × Int) :=
  match f s with
  | none => none
  | some (a, one) => match g s with
    | none => none
    | some (b, two) => if (withinB one 4 && withinB two 4 && eqTyB a b) = true then some (a, 4) else none
/-- From each element. -/
def mapO (f : Ty → Option (Ty × Int)) (s : Ty) : Option (Ty × Int) :=
  if s.kind = 5 then
    match s.args[0]? with
    | none => none
    | some e => match f e with
      | none => none
      | some (t, kd) => if kd = 1 then some (.mk 5 [] [t], 1) else none
  else none
noncomputable def nodeTyO (k : Int) (nm : ByteArray) (fs : List (Ty → Option (Ty × Int))) (s : Ty) : Option (Ty × Int) :=
  if k = 12 then (match fs with | [f, g] => thenO f g s | _ => none)
  else if k = 13 then (match fs with | [f, g] => elseO f g s | _ => none)
  else if k = 11 then (match fs with | [f] => mapO f s | _ => none)
  else leafO k nm s
def goodO (p : Option (Ty × Int)) : Option (Ty × Int) :=
  match p with
  | none => none
  | some (t, kd) => if validB t then some (t, kd) else none
mutual
noncomputable def typeO : Ot → Ty → Option (Ty × Int) | .mk k _ nm ts => fun s => goodO (nodeTyO k nm (typeOs ts) s)
noncomputable def typeOs : List Ot → List (Ty → Option (Ty × Int)) | [] => [] | t :: r => typeO t :: typeOs r
end
noncomputable def opticTypeB (s : Ty) (o : Ot) : Option (Ty × Int) := if (validB s && opticB o) = true then typeO o s else none

theorem goodO_valid {p : Option (Ty × Int)} {t : Ty} {kd : Int} (h : goodO p = some (t, kd)) : p = some (t, kd) ∧ validB t = true := by
  cases p with
  | none => simp [goodO] at h
  | some q =>
    obtain ⟨t', kd'⟩ := q
    by_cases hv : validB t' = true
    · simp only [goodO, hv, if_true, Option.some.injEq, Prod.mk.injEq] at h
      obtain ⟨rfl, rfl⟩ := h
      exact ⟨rfl, hv⟩
    · have hv' : validB t' = false := by simpa using hv
      simp [goodO, hv'] at h
theorem typeO_valid {o : Ot} {s t : Ty} {kd : Int} (h : typeO o s = some (t, kd)) : validB t = true := by
  cases o with
  | mk k n nm ts =>
    rw [typeO] at h
    exact (goodO_valid h).2
theorem typeO_leaf (k n : Int) (nm : ByteArray) (ts : List Ot) (s : Ty) (h : k ≠ 11 ∧ k ≠ 12 ∧ k ≠ 13) : typeO (.mk k n nm ts) s = goodO (leafO k nm s) := by
  simp only [typeO, nodeTyO, if_neg h.2.1, if_neg h.2.2, if_neg h.1]
theorem typeO_then (n : Int) (nm : ByteArray) (a b : Ot) (s : Ty) : typeO (.mk 12 n nm [a, b]) s = goodO (thenO (typeO a) (typeO b) s) := by
  simp [typeO, typeOs, nodeTyO]
theorem typeO_else (n : Int) (nm : ByteArray) (a b : Ot) (s : Ty) : typeO (.mk 13 n nm [a, b]) s = goodO (elseO (typeO a) (typeO b) s) := by
  simp [typeO, typeOs, nodeTyO]
theorem typeO_map (n : Int) (nm : ByteArray) (a : Ot) (s : Ty) : typeO (.mk 11 n nm [a]) s = goodO (mapO (typeO a) s) := by
  simp [typeO, typeOs, nodeTyO]

/-- Whether a kind from lo to hi occurs. -/
def inB (lo hi k : Int) : Bool := decide (lo ≤ k ∧ k ≤ hi)
mutual
def hasK (lo hi : Int) : Ot → Bool | .mk k _ _ ts => hasKs lo hi ts || inB lo hi k
def hasKs (lo hi : Int) : List Ot → Bool | [] => false | t :: r => hasK lo hi t || hasKs lo hi r
end
def structuralB (o : Ot) : Bool := opticB o && !hasK 9 11 o
def plainB (o : Ot) : Bool := structuralB o && !hasK 7 8 o
theorem hasKs_none (lo hi : Int) : ∀ (ts : List Ot), (∀ i, (h : i < ts.length) → hasK lo hi ts[i] = false) → hasKs lo hi ts = false
  | [], _ => by simp [hasKs]
  | t :: r, h => by
    have h0 : hasK lo hi t = false := h 0 (by simp)
    have h1 := hasKs_none lo hi r (fun i hi' => h (i + 1) (by simpa using hi'))
    simp [hasKs, h0, h1]
theorem hasKs_some (lo hi : Int) : ∀ (ts : List Ot) (i : Nat) (h : i < ts.length), hasK lo hi ts[i] = true → hasKs lo hi ts = true
  | t :: r, 0, _, hk => by
    have h0 : hasK lo hi t = true := hk
    simp [hasKs, h0]
  | t :: r, i + 1, h, hk => by
    have h1 := hasKs_some lo hi r i (by simpa using h) (by simpa using hk)
    simp [hasKs, h1]

theorem sumSizes_names : ∀ (ls : List ByteArray), ls.all isNameB = true → sumSizes ls ≤ 4 * ls.length
  | [], _ => by simp [sumSizes]
  | l :: r, h => by
    simp only [List.all_cons, Bool.and_eq_true] at h
    have h0 : l.size ≤ 4 := by
      have h1 := h.1
      unfold isNameB at h1
      simp only [Bool.and_eq_true, decide_eq_true_eq] at h1
      exact h1.2
    have h2 := sumSizes_names r h.2
    simp only [sumSizes, List.map_cons, List.sum_cons, List.length_cons] at h2 ⊢
    omega
theorem nodeB_sizes {k : Int} {ls : List ByteArray} {m : Nat} (h : nodeB k ls m = true) : ls.length + sumSizes ls ≤ 20 := by
  have hz : ls.length = 0 → ls.length + sumSizes ls ≤ 20 := fun h0 => by
    have : ls = [] := List.length_eq_zero_iff.1 h0
    subst this
    simp [sumSizes]
  unfold nodeB at h
  split at h
  · simp only [Bool.and_eq_true, decide_eq_true_eq] at h
    exact hz h.1
  · split at h
    · rw [Bool.and_eq_true] at h
      have h2 := h.2
      unfold labelsB at h2
      simp only [Bool.and_eq_true, decide_eq_true_eq] at h2
      have h3 := sumSizes_names ls h2.1.1
      omega
    · split at h
      · simp only [Bool.and_eq_true, decide_eq_true_eq] at h
        exact hz h.1
      · cases h
mutual
/-- A type whose nodes have forms is not long. -/
theorem szTy_form : ∀ (t : Ty), formTy t = true → szTy t + 1 ≤ 22 * sizeTy t
  | .mk k ls ts, h => by
    rw [formTy, Bool.and_eq_true] at h
    have h1 := szTys_form ts h.1
    have h2 := nodeB_sizes h.2
    rw [szTy, sizeTy]
    omega
theorem szTys_form : ∀ (ts : List Ty), formTys ts = true → szTys ts ≤ 22 * sizeTys ts
  | [], _ => by simp [szTys]
  | t :: r, h => by
    rw [formTys, Bool.and_eq_true] at h
    have h1 := szTy_form t h.1
    have h2 := szTys_form r h.2
    rw [szTys, sizeTys]
    omega
end
theorem szTy_valid {t : Ty} (h : validB t = true) : szTy t ≤ 660 := by
  unfold validB at h
  simp only [Bool.and_eq_true, decide_eq_true_eq] at h
  have := szTy_form t h.2
  omega

end Go.Proofs.YthdfidhijmcbdaaGreatDoor
