/- spec.PartType. -/
import Derived.Test.YthdfidhijmcbdaaGreatDoorSpecTy5
import Derived.Test.YthdfidhijmcbdaaGreatDoorSpecCopy
namespace Go.Proofs.YthdfidhijmcbdaaGreatDoor
open Go.RowKit

/-- The part of a label, if there is one. -/
def partB (t : Ty) (l : ByteArray) : Option Ty := if validB t ∧ 0 ≤ idxOf t.labels l then t.args[(idxOf t.labels l).toNat]? else none
/-- The type without anything. -/
def zeroTy : Ty := .mk 0 [] []
/-- A part, or nothing, is handed back. -/
def PartPost (t : Ty) (l : ByteArray) (w : World) (e : Ending) (w' : World) : Prop :=
  ∃ v, e = .returned (.tuple #[v, .bool (partB t l).isSome]) ∧ TyIn w' (Span w.heap.size w'.heap.size) v ((partB t l).getD zeroTy) ∧ Below w.heap.size w w'

theorem zero_in (w : World) (S : Nat → Prop) : TyIn w S (.agg #[.int .i64 0, .slice none 0 0, .slice none 0 0]) zeroTy :=
  TyIn.of (t := zeroTy) (gl := 0) (Sa := fun _ => False) (Nat.zero_le _) (fun i h => absurd h (by simp [zeroTy, Ty.labels])) (.inl rfl) ⟨Nat.zero_le _, 0, fun _ => .bool false, fun _ _ => False, .inl rfl, fun i hi => absurd hi (by simp [zeroTy, Ty.args]), fun i _ hi => absurd hi (by simp [zeroTy, Ty.args]), fun i hi => absurd hi (by simp [zeroTy, Ty.args])⟩ (fun _ h => h.elim)

theorem idxOf_lt (ss : List ByteArray) (s : ByteArray) (h : 0 ≤ idxOf ss s) : (idxOf ss s).toNat < ss.length := by
  unfold idxOf at *
  split
  · rename_i k hk
    have := List.mem_of_find?_eq_some hk
    have := List.mem_range.1 this
    simpa using this
  · rename_i hk
    rw [hk] at h
    simp at h
theorem valid_labels (t : Ty) (hv : validB t = true) (h0 : 0 < t.labels.length) : t.args.length = t.labels.length := by
  cases t with
  | mk k ls ts =>
    unfold validB at hv
    simp only [Bool.and_eq_true] at hv
    have hf := hv.2
    rw [formTy, Bool.and_eq_true] at hf
    have hn := hf.2
    simp only [Ty.labels, Ty.args] at *
    unfold nodeB at hn
    split at hn
    · simp at hn
      have := hn.1
      simp [this] at h0
    · split at hn
      · simp at hn
        exact hn.1
      · split at hn
        · simp at hn
          have := hn.1
          simp [this] at h0
        · cases hn
theorem partB_some (t : Ty) (l : ByteArray) (hv : validB t = true) (hi : 0 ≤ idxOf t.labels l) : ∃ k : Nat, idxOf t.labels l = k ∧ ∃ h : k < t.args.length, partB t l = some t.args[k] := by
  have h1 := idxOf_lt t.labels l hi
  have h2 := valid_labels t hv (by omega)
  refine ⟨(idxOf t.labels l).toNat, by omega, by omega, ?_⟩
  unfold partB
  rw [if_pos ⟨hv, hi⟩, List.getElem?_eq_getElem]
theorem partB_none (t : Ty) (l : ByteArray) (h : validB t = false ∨ idxOf t.labels l < 0) : partB t l = none := by
  unfold partB
  rw [if_neg]
  rintro ⟨h1, h2⟩
  rcases h with h | h
  · rw [h1] at h; cases h
  · omega

set_option maxHeartbeats 4000000 in
theorem specPart_any (t : Ty) (l : ByteArray) (v : Value) (w : World) (hv : TyAt w w.heap.size v t) (hsz : szTy t ≤ 1048576) :
    Calls Tryz.prog 123 #[v, .string l] w (PartPost t l w) := by
  have hv0 := hv
  have hval := Lib.hid (fun W h => specValid_any t v W h hsz)
  obtain ⟨L, lc, A, ac, rfl, hn, _, hl, ha⟩ := hv.open
  have HN := Lib.hid hn
  have hse := szTy_eq t
  have hle := szTys_len t.args
  obtain ⟨hb0, p0, r0, hs0⟩ := boxes2 w 27 27 #[.int .i64 t.kind, .slice L t.labels.length lc, .slice A t.args.length ac] #[.int .i64 0, .slice none 0 0, .slice none 0 0]
  have hv1 := hv0.up hb0
  have hl0 := hl.up' hb0
  have hpl := p0.lt
  have hrl := r0.lt
  have HZ := Lib.hid hs0
  clear hs0 hv hv0 hl hn
  go_enter Tryz.func123, Tryz.ntmps123
  go_wp2_with fail
  generalize (w.alloc (.cells #[.int .i64 t.kind, .slice L t.labels.length lc, .slice A t.args.length ac] 27)).alloc (.cells #[.int .i64 0, .slice none 0 0, .slice none 0 0] 27) = w0 at *
  refine (specIndexOf_any L lc w0.heap.size t.labels l w0 hl0 HN.out).mono ?_
  rintro e w1 ⟨rfl, rfl⟩
  have q0 : w0.cell? ⟨w.heap.size, 0, none⟩ = some (.int .i64 t.kind) := p0.cell 0
  have q1 : w0.cell? ⟨w.heap.size, 1, none⟩ = some (.slice L t.labels.length lc) := p0.cell 1
  have q2 : w0.cell? ⟨w.heap.size, 2, none⟩ = some (.slice A t.args.length ac) := p0.cell 2
  go_wp2_with fail
  refine (hval.out w0 hv1).mono ?_
  rintro e w1 ⟨rfl, hb1⟩
  have hb1' := hb0.trans (hb1.mono hb0.size)
  have p1 := p0.below hb1 hpl
  have r1 := r0.below hb1 hrl
  have hs1 := hb1.size
  have d0 : w1.cell? ⟨w.heap.size + 1, 0, none⟩ = some (.int .i64 0) := r1.cell 0
  have d1 : w1.cell? ⟨w.heap.size + 1, 1, none⟩ = some (.slice none 0 0) := r1.cell 1
  have d2 : w1.cell? ⟨w.heap.size + 1, 2, none⟩ = some (.slice none 0 0) := r1.cell 2
  have f0 : w1.frozen? ⟨w.heap.size + 1, 0, none⟩ = false := r1.free 0
  have f1 : w1.frozen? ⟨w.heap.size + 1, 1, none⟩ = false := r1.free 1
  have f2 : w1.frozen? ⟨w.heap.size + 1, 2, none⟩ = false := r1.free 2
  clear q0 q1 q2
  cases hvb : validB t
  · have hr := Lib.hid (partB_none t l (.inl hvb))
    clear hvb p1 r1
    go_wp2
    refine bodyPost_ret (v := .tuple #[.agg #[.int .i64 0, .slice none 0 0, .slice none 0 0], .bool false]) (by simp [results, Tryz.results123, go_sem, d0, d1, d2]) rfl ⟨_, by rw [hr.out]; rfl, ?_, ?_⟩
    · rw [hr.out]
      exact zero_in _ _
    · exact ((hb1'.setCell (by simp) _).setCell (by simp) _).setCell (by simp) _
  · by_cases hix : idxOf t.labels l < 0
    · have hr := Lib.hid (partB_none t l (.inr hix))
      generalize idxOf t.labels l = x at *
      clear hvb p1 r1
      go_wp2
      refine bodyPost_ret (v := .tuple #[.agg #[.int .i64 0, .slice none 0 0, .slice none 0 0], .bool false]) (by simp [results, Tryz.results123, go_sem, d0, d1, d2]) rfl ⟨_, by rw [hr.out]; rfl, ?_, ?_⟩
      · rw [hr.out]
        exact zero_in _ _
      · exact ((hb1'.setCell (by simp) _).setCell (by simp) _).setCell (by simp) _
    · obtain ⟨k, hk, hki, hpe⟩ := partB_some t l hvb (by omega)
      rw [hk] at hix ⊢
      have HP := Lib.hid hpe
      have HK := Lib.hid hk
      have hm := ha.1
      unfold maxLen at hm
      clear hvb hpe hk
      have q2 : w1.cell? ⟨w.heap.size, 2, none⟩ = some (.slice A t.args.length ac) := p1.cell 2
      obtain ⟨b, off, M, mc, C, cc, rfl, hbl, e0, e1, e2, _, _, _, _, ht⟩ := (ha.below hb1').elem k hki
      have hpt := szTy_part t.args k hki
      have hw1 := hb1'.size
      have HT := Lib.hid (specCopy_any t.args[k] _ w1 (ht.more hw1) (by omega))
      have hkI : (k : Int) < (t.args.length : Int) := by omega
      clear ht p1 d0 d1 d2 f0 f1 f2
      go_wp2_with fail
      refine HT.out.mono ?_
      rintro e w2 ⟨v2, rfl, hv2, hb2⟩
      have HV2 := Lib.hid hv2
      obtain ⟨T1, U1, T2, U2, _, rfl, _⟩ := hv2.open
      have hb2' := hb1'.trans (hb2.mono hw1)
      have r2 := r1.below hb2 r1.lt
      have d0 : w2.cell? ⟨w.heap.size + 1, 0, none⟩ = some (.int .i64 0) := r2.cell 0
      have d1 : w2.cell? ⟨w.heap.size + 1, 1, none⟩ = some (.slice none 0 0) := r2.cell 1
      have d2 : w2.cell? ⟨w.heap.size + 1, 2, none⟩ = some (.slice none 0 0) := r2.cell 2
      have f0 : w2.frozen? ⟨w.heap.size + 1, 0, none⟩ = false := r2.free 0
      have f1 : w2.frozen? ⟨w.heap.size + 1, 1, none⟩ = false := r2.free 1
      have f2 : w2.frozen? ⟨w.heap.size + 1, 2, none⟩ = false := r2.free 2
      have hzz := HZ.out
      clear r1 r2 hv2
      go_wp2
      refine bodyPost_ret (v := .tuple #[.agg #[.int .i64 t.args[k].kind, .slice T1 t.args[k].labels.length U1, .slice T2 t.args[k].args.length U2], .bool true]) (by simp [results, Tryz.results123, go_sem, d0, d1, d2]) rfl ⟨_, by rw [HP.out]; rfl, ?_, ?_⟩
      · rw [HP.out]
        refine (HV2.out.keep fun q hq _ => ?_).wide fun q hq => ⟨by have := hq.1; omega, ?_⟩
        · have : q ≠ w.heap.size + 1 := by have := hq.1; omega
          rw [Below.heap_setCell _ _ _ _ this, Below.heap_setCell _ _ _ _ this, Below.heap_setCell _ _ _ _ this]
        · have := hq.2
          simpa [World.setCell] using this
      · exact ((hb2'.setCell (by simp) _).setCell (by simp) _).setCell (by simp) _

end Go.Proofs.YthdfidhijmcbdaaGreatDoor
