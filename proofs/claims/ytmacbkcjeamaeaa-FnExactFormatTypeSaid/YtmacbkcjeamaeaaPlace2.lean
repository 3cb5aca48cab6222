/- Pairs of places as keys of maps. -/
import Derived.Test.YtmacbkcjeamaeaaPlace
namespace Go.Proofs.Ytmacbkcjeamaeaa
set_option maxRecDepth 100000
open Go.RowKit

def plP : Pl → Value | none => .pointer none | some (g, _) => .pointer (some ⟨g, 0, none⟩)
def plN : Pl → Value | none => .int .i64 0 | some (_, n) => .int .i64 (n : Int)
theorem plVal_eq (k : Pl) : plVal k = .agg #[plP k, plN k] := by
  match k with
  | none => rfl
  | some (g, n) => rfl
def pl2Val (k : Pl × Pl) : Value := .agg #[plP k.1, plN k.1, plP k.2, plN k.2]
def Pl2Ok (w1 : World) (B mb : Nat) (k : Pl × Pl) : Prop := PlOk w1 B mb k.1 ∧ PlOk w1 B mb k.2

theorem pl2_array : Try.prog.underlying 114 = some (.array 2 112) := by kernel_rfl
theorem pl_size2 : (Try.prog.info? 112).map (fun i => i.size) = some 2 := by kernel_rfl

theorem run_sizeOf_pl (w : World) : (sizeOf 112).run Try.prog w = .ok 2 w := by
  have h := pl_size2
  cases hi : Try.prog.info? 112 with
  | none => rw [hi] at h; cases h
  | some i =>
    rw [hi] at h
    simp at h
    simp [sizeOf, typeInfo, hi, Result.andThen, h]
theorem run_isAgg_pl (w : World) : (isAgg 112).run Try.prog w = .ok true w := by
  simp [isAgg, run_underlying pl_struct, Result.andThen]
theorem run_pl2_part0 (w : World) (a b c d : Value) : (part 112 #[a, b, c, d] 0).run Try.prog w = .ok (.agg #[a, b]) w := by
  kernel_rfl
theorem run_pl2_part1 (w : World) (a b c d : Value) : (part 112 #[a, b, c, d] 2).run Try.prog w = .ok (.agg #[c, d]) w := by
  kernel_rfl

theorem run_pl2_eq (w : World) (d : Nat) (k k' : Pl × Pl) (r1 r2 : Bool) (h1 : (Op.equalIn (d + 2) 112 (plVal k.1) (plVal k'.1)).run Try.prog w = .ok r1 w) (h2 : (Op.equalIn (d + 2) 112 (plVal k.2) (plVal k'.2)).run Try.prog w = .ok r2 w) :
    (Op.equalIn (d + 3) 114 (pl2Val k) (pl2Val k')).run Try.prog w = .ok (r1 && r2) w := by
  rw [plVal_eq, plVal_eq] at h1 h2
  unfold Op.equalIn pl2Val
  simp only [Sem.run_bind, run_underlying pl2_array, Result.andThen_ok, run_sizeOf_pl]
  simp only [Std.Legacy.Range.forIn_eq_forIn_range', Std.Legacy.Range.size, Nat.sub_zero, Nat.add_one_sub_one, Nat.div_one]
  rw [show List.range' 0 2 1 = [0, 1] from rfl]
  cases r1 <;> cases r2 <;> simp [run_pl2_part0, run_pl2_part1, h1, h2, Result.andThen]

theorem pl2_check (w : World) (em : Bool) (n : Nat) (k : Pl × Pl) : (Instr.checkKey em (n + 3) 114 (pl2Val k)).run Try.prog w = .ok () w := by
  have h1 := pl_check w em n k.1
  have h2 := pl_check w em n k.2
  rw [plVal_eq] at h1 h2
  unfold Instr.checkKey pl2Val
  simp only [Sem.run_bind, run_underlying pl2_array, Result.andThen_ok]
  simp only [Std.Legacy.Range.forIn_eq_forIn_range', Std.Legacy.Range.size, Nat.sub_zero, Nat.add_one_sub_one, Nat.div_one]
  rw [show List.range' 0 2 1 = [0, 1] from rfl]
  simp [run_pl2_part0, run_pl2_part1, h1, h2, Result.andThen]

theorem bits_plP (k : Pl) (n : Nat) : Instr.sameBits n (plP k) (plP k) = true := by
  match k with
  | none => simp [plP, Instr.sameBits]
  | some (g, m) => simp [plP, Instr.sameBits]
theorem bits_plN (k : Pl) (n : Nat) : Instr.sameBits n (plN k) (plN k) = true := by
  match k with
  | none => simp [plN, Instr.sameBits]
  | some (g, m) => simp [plN, Instr.sameBits]

/-- Pairs of places as keys. -/
theorem pl2Kit (w1 : World) (B mb : Nat) : KeyKit Try.prog 114 pl2Val (PlWd w1 B mb) (Pl2Ok w1 B mb) where
  find := fun w k es => findKey_wide pl2_array rfl w _ es
  check := fun w em k => pl2_check w em 9997 k
  same := fun w k => run_pl2_eq w 9997 k k true true (pl_eq_same w 9997 k.1) (pl_eq_same w 9997 k.2)
  other := fun w k k' hw hk hk' hne => by
    by_cases h1 : k.1 = k'.1
    · have h2 : k.2 ≠ k'.2 := fun e => hne (by rw [Prod.ext_iff]; exact ⟨h1, e⟩)
      have := run_pl2_eq w 9997 k k' true false (by rw [h1]; exact pl_eq_same w 9997 k'.1) (pl_eq_other w 9997 k.2 k'.2 hw hk.2 hk'.2 h2)
      exact this
    · by_cases h2 : k.2 = k'.2
      · exact run_pl2_eq w 9997 k k' false true (pl_eq_other w 9997 k.1 k'.1 hw hk.1 hk'.1 h1) (by rw [h2]; exact pl_eq_same w 9997 k'.2)
      · exact run_pl2_eq w 9997 k k' false false (pl_eq_other w 9997 k.1 k'.1 hw hk.1 hk'.1 h1) (pl_eq_other w 9997 k.2 k'.2 hw hk.2 hk'.2 h2)
  stays := fun w k => stays_agg w _ (by
    intro v hv
    simp at hv
    rcases hv with rfl | rfl | rfl | rfl
    · exact bits_plP _ _
    · exact bits_plN _ _
    · exact bits_plP _ _
    · exact bits_plN _ _)
  inj := fun k k' h => by
    simp [pl2Val] at h
    obtain ⟨h1, h2, h3, h4⟩ := h
    rw [Prod.ext_iff]
    exact ⟨plVal_inj _ _ (by rw [plVal_eq, plVal_eq, h1, h2]), plVal_inj _ _ (by rw [plVal_eq, plVal_eq, h3, h4])⟩

end Go.Proofs.Ytmacbkcjeamaeaa
