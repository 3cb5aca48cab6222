/- spec.l5Draw. -/
import Derived.Test.YtlmbnefoobameaaDoorVDraw3
import Derived.Test.YtlmbnefoobameaaDoorVDraw4
import Derived.Test.YtlmbnefoobameaaDoorVDraw5
import Derived.Test.YtlmbnefoobameaaDoorSpecHas
namespace Go.Proofs.YtlmbnefoobameaaDoor
open Go.RowKit

def DrawVOne (t : Ty) : Prop := ∀ (v : Value) (S : Nat → Prop) (p B : Nat) (w : World), TyIn w S v t → ¬ S p → CurAt w B p → formTy t = true → drawSz t ≤ 1048576 → Calls Tryd.prog 33 #[.pointer (some ⟨p, 0, none⟩), v] w (DrawnVa w B p (drawSz t))

theorem drawSz_1 (ls : List ByteArray) (ts : List Ty) (k : Int) (h : k ≠ 5) : drawSz (.mk k ls ts) = sumSizes ls + ls.length + drawSzs ts + ts.length := by
  rw [drawSz, if_neg h]

theorem specDrawV_of (k0 : Int) (ls : List ByteArray) (ts : List Ty) (hall : ∀ i, (h : i < ts.length) → DrawVOne ts[i]) : DrawVOne (.mk k0 ls ts) := by
  intro v S p B w hv hpS hc hf hsz
  have hvh := hv.here
  obtain ⟨L, lc, A, ac, gl, rfl, hn, hz, hl, ha⟩ := hv.open
  obtain ⟨L', lc', A', ac', e', _, _, hl2, _⟩ := hvh.open
  injection e' with e'
  injection e' with e'
  injection e' with _ e'
  injection e' with e1 e'
  injection e' with e2 e'
  injection e1 with e1 _ _
  subst e1
  simp only [Ty.kind, Ty.labels, Ty.args] at *
  obtain ⟨hnode, hf2⟩ := formTy_mk _ _ _ hf
  have hpS' : ¬ (S p ∧ p ≠ gl) := fun h => hpS h.1
  rcases nodeB_kind _ _ _ hnode with (rfl | rfl) | ⟨hk, hlen, hpos⟩ | ⟨rfl, hm⟩
  · exact specDrawV_1 ls ts L A lc ac p B _ w hc
  · exact specDrawV_2 ls ts L A lc ac p B _ w hc
  · have hk5 : k0 ≠ 5 := by omega
    rw [drawSz_1 ls ts k0 hk5] at hsz ⊢
    have hsub : ∀ i, (h : i < ts.length) → ∀ (v : Value) (S' : Nat → Prop) (W : World), TyIn W S' v ts[i] → ¬ S' p → CurAt W B p → Calls Tryd.prog 33 #[.pointer (some ⟨p, 0, none⟩), v] W (DrawnVa W B p (drawSz ts[i])) := fun i h v S' W h2 h3 h4 => hall i h v S' p B W h2 h3 h4 (hf2 i h) (by have := drawSzs_part ts i h; omega)
    rcases hk with rfl | rfl
    · exact specDrawV_3 ls ts L A lc ac p B _ _ w hc ha hpS' hl2 (by omega) hz (by omega) (Nat.le_refl _) hsub
    · rcases hl with e | ⟨rfl, hSgl, hrow⟩
      · rw [hlen, e] at hpos
        simp at hpos
      · exact specDrawV_4 ls ts A gl 0 lc ac p B _ _ w hc ha hpS' (fun i h => by rw [Nat.zero_add]; exact hrow.cell i h) hrow.lt (fun e => hpS (by rw [← e]; exact hSgl)) hz hlen (by omega) (by omega) (Nat.le_refl _) hsub
  · have h0t : 0 < ts.length := by omega
    have hds : drawSz (.mk 5 ls ts) = 3 * (1 + drawSzs ts) := by rw [drawSz, if_pos rfl]
    rw [hds] at hsz ⊢
    have hp0 := drawSzs_part ts 0 h0t
    exact specDrawV_5 ls ts L A lc ac p B _ _ w hc ha hpS' h0t (by omega) (fun i h v S' W h2 h3 h4 => hall i h v S' p B W h2 h3 h4 (hf2 i h) (by have := drawSzs_part ts i h; omega))

theorem specDrawV_any (t : Ty) : DrawVOne t := by
  induction t using Ty.ind with
  | h k ls ts ih => exact specDrawV_of k ls ts ih

end Go.Proofs.YtlmbnefoobameaaDoor
