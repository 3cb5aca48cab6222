/- A row of strings with room behind them, or no row where there are none. -/
import Derived.Test.YtghipacdhpglcaaRowS
namespace Go.Proofs.Ytghipacdhpglcaa
set_option maxRecDepth 100000
open Go.RowKit

/-- The slice of address A holds the strings ss, in the row g if there are any; block g is there. -/
def RowN (w : World) (A : Option Addr) (g : Nat) (ss : List ByteArray) : Prop := g < w.heap.size ∧ (ss = [] ∨ A = some ⟨g, 0, none⟩ ∧ RowStrs w g ss)
theorem RowN.lt {w : World} {A : Option Addr} {g : Nat} {ss : List ByteArray} (h : RowN w A g ss) : g < w.heap.size := h.1
theorem RowN.at {w : World} {A : Option Addr} {g : Nat} {ss : List ByteArray} (h : RowN w A g ss) (B : Nat) (hB : g < B) : StrsAt w B A ss := by
  rcases h.2 with rfl | ⟨rfl, h2⟩
  · exact StrsAt.empty _ _ _
  · exact h2.at B hB
theorem RowN.drewN {w : World} {A : Option Addr} {g : Nat} {ss : List ByteArray} (h : RowN w A g ss) (k : Nat) : RowN (w.drewN k) A g ss := h
theorem RowN.below {w w' : World} {A : Option Addr} {g B : Nat} {ss : List ByteArray} (h : RowN w A g ss) (hb : Below B w w') (hg : g < B) : RowN w' A g ss :=
  ⟨Nat.lt_of_lt_of_le h.1 hb.size, h.2.imp id fun ⟨h1, h2⟩ => ⟨h1, h2.below hb hg⟩⟩
theorem RowN.keep {w w' : World} {A : Option Addr} {g x : Nat} {ss : List ByteArray} (h : RowN w A g ss) (ho : w.grownBy w' (some x)) (hx : g ≠ x) : RowN w' A g ss :=
  ⟨Nat.lt_of_lt_of_le h.1 ho.size, h.2.imp id fun ⟨h1, h2⟩ => ⟨h1, h2.keep ho hx⟩⟩

def RowNewN (w : World) (ss : List ByteArray) (e : Ending) (w' : World) : Prop :=
  ∃ A g cap, e = .returned (.slice A ss.length cap) ∧ w.heap.size ≤ g ∧ RowN w' A g ss ∧ Below w.heap.size w w'
def MarkedRowN (w : World) (A : Option Addr) (g k n : Nat) (e : Ending) (w' : World) : Prop :=
  e = .returned (.int .i64 ((k + n : Nat) : Int)) ∧ RowN w' A g (marks k n) ∧ w.grownBy w' (some g)

set_option maxHeartbeats 400000 in
theorem markStringS_rowN (A : Option Addr) (g c k : Nat) (ss : List ByteArray) (w : World) (hg : RowN w A g ss) (h0 : 0 < k) (h1 : k + ss.length ≤ 2 ^ 62) :
    Calls Try.prog 46 #[.slice A ss.length c, .int .i64 k] w (MarkedRowN w A g k ss.length) := by
  rcases hg with ⟨hl, rfl | ⟨rfl, hr⟩⟩
  · go_enter Try.func46, Try.ntmps46
    go_wp2
    go_loopw [1, 5] (fun m i wr => m = .int .i64 (k : Int) ∧ i = .int .i64 0 ∧ wr = w) (fun _ _ _ => 0)
    case atStart => exact ⟨rfl, rfl, rfl⟩
    case round =>
      obtain ⟨rfl, rfl, rfl⟩ := hrel
      go_wp2
      go_ret
      exact ⟨rfl, ⟨hl, .inl rfl⟩, only_refl _ _⟩
  · refine (markStringS_row g c k ss w hr h0 h1).mono ?_
    rintro e w' ⟨rfl, h2, h3⟩
    exact ⟨rfl, ⟨h2.lt, .inr ⟨rfl, h2⟩⟩, h3⟩

set_option maxHeartbeats 400000 in
theorem heldStringS_rowN (A : Option Addr) (g c k n : Nat) (w : World) (hg : RowN w A g (marks k n)) (h0 : 0 < k) (h1 : k + n ≤ 2 ^ 62) :
    Calls Try.prog 47 #[.slice A n c, .int .i64 k] w (HeldTo w (k + n)) := by
  rcases hg with ⟨hl, hn | ⟨rfl, hr⟩⟩
  · have hn0 : n = 0 := by have := congrArg List.length hn; rw [marks_len] at this; simpa using this
    subst hn0
    clear hn
    go_enter Try.func47, Try.ntmps47
    go_wp2
    go_loopw [1, 5] (fun m i wr => m = .int .i64 (k : Int) ∧ i = .int .i64 0 ∧ wr = w) (fun _ _ _ => 0)
    case atStart => exact ⟨rfl, rfl, rfl⟩
    case round =>
      obtain ⟨rfl, rfl, rfl⟩ := hrel
      go_wp2
      go_ret
      exact ⟨rfl, Below.refl _ _⟩
  · exact heldStringS_row g c k n w hr h0 h1

end Go.Proofs.Ytghipacdhpglcaa
