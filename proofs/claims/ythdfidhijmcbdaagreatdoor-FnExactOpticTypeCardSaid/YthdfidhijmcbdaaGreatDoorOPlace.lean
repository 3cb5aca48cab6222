/- Places of slices of optics as keys of maps. -/
import Derived.Test.YthdfidhijmcbdaaGreatDoorPlace
import Derived.Test.YthdfidhijmcbdaaGreatDoorOtIn

namespace Go.Proofs.YthdfidhijmcbdaaGreatDoor.O
open Go.RowKit

theorem pl_held : Tryz.prog.stoodInHeld 154 = false := by kernel_rfl
theorem pl_fields : (Tryz.prog.fieldsOf 154).toList.map (fun f => (f.name, f.type, f.offset)) = [("first", 152, 0), ("count", 3, 1)] := by kernel_rfl
theorem pl_struct : Tryz.prog.underlying 154 = some (.struct (Tryz.prog.fieldsOf 154)) := by kernel_rfl
theorem pl_size : (Tryz.prog.info? 30).map (fun i => i.size) = some 4 := by kernel_rfl

theorem pl_fields2 : ∃ f0 f1 : Field, (Tryz.prog.fieldsOf 154).toList = [f0, f1] ∧ f0.name = "first" ∧ f0.type = 152 ∧ f0.offset = 0 ∧ f1.name = "count" ∧ f1.type = 3 ∧ f1.offset = 1 := by
  have h := pl_fields
  generalize (Tryz.prog.fieldsOf 154).toList = l at h
  have hlen : l.length = 2 := by simpa using congrArg List.length h
  match l, hlen with
  | [f0, f1], _ =>
    simp at h
    exact ⟨f0, f1, rfl, h.1.1, h.1.2.1, h.1.2.2, h.2.1, h.2.2.1, h.2.2.2⟩

theorem run_pl_part0 (w : World) (a b : Value) : (part 152 #[a, b] 0).run Tryz.prog w = .ok a w := by
  simp [part, run_isAgg_plain w 152 _ Tryz.underlying152 rfl, Result.andThen]
theorem run_pl_part1 (w : World) (a b : Value) : (part 3 #[a, b] 1).run Tryz.prog w = .ok b w := by
  simp [part, run_isAgg_plain w 3 _ Tryz.underlying3 rfl, Result.andThen]

theorem run_sizeOf_ty (w : World) : ∃ n, n ≠ 0 ∧ (sizeOf 30).run Tryz.prog w = .ok n w := by
  have h := pl_size
  cases hi : Tryz.prog.info? 30 with
  | none => rw [hi] at h; cases h
  | some i =>
    rw [hi] at h
    simp at h
    exact ⟨i.size, by omega, by simp [sizeOf, typeInfo, hi, Result.andThen]⟩

theorem run_pl_eq (w : World) (d : Nat) (p q : Option Addr) (m n : Int) (r : Bool) (hp : (Op.equalIn (d + 1) 152 (.pointer p) (.pointer q)).run Tryz.prog w = .ok r w) :
    (Op.equalIn (d + 2) 154 (.agg #[.pointer p, .int .i64 m]) (.agg #[.pointer q, .int .i64 n])).run Tryz.prog w = .ok (r && m == n) w := by
  rw [run_equalIn_struct w (d + 1) _ _ _ pl_struct pl_held]
  obtain ⟨f0, f1, hl, n0, t0, o0, n1, t1, o1⟩ := pl_fields2
  rw [hl]
  have he := run_equalIn_int (P := Tryz.prog) w d 3 .i64 _ m n Tryz.underlying3
  by_cases hmn : m = n
  · subst hmn
    cases r <;> simp [Op.eqFields, n0, t0, o0, n1, t1, o1, run_pl_part0, run_pl_part1, hp, he, Result.andThen]
  · have hb : (m == n) = false := by simp [hmn]
    cases r <;> simp [Op.eqFields, n0, t0, o0, n1, t1, o1, run_pl_part0, run_pl_part1, hp, he, Result.andThen, hb]

theorem run_ptr_nil (w : World) (d : Nat) : (Op.equalIn (d + 1) 152 (.pointer none) (.pointer none)).run Tryz.prog w = .ok true w := by
  simp [Op.equalIn, run_underlying Tryz.underlying152, Result.andThen]
theorem run_ptr_nil1 (w : World) (d : Nat) (a : Addr) : (Op.equalIn (d + 1) 152 (.pointer none) (.pointer (some a))).run Tryz.prog w = .ok false w := by
  simp [Op.equalIn, run_underlying Tryz.underlying152, Result.andThen]
theorem run_ptr_nil2 (w : World) (d : Nat) (a : Addr) : (Op.equalIn (d + 1) 152 (.pointer (some a)) (.pointer none)).run Tryz.prog w = .ok false w := by
  simp [Op.equalIn, run_underlying Tryz.underlying152, Result.andThen]
theorem run_ptr_same (w : World) (d : Nat) (a : Addr) : (Op.equalIn (d + 1) 152 (.pointer (some a)) (.pointer (some a))).run Tryz.prog w = .ok true w := by
  obtain ⟨n, h0, h1⟩ := run_sizeOf_ty w
  simp [Op.equalIn, run_underlying Tryz.underlying152, Result.andThen, h0, h1, run_sameAddr_same]
theorem run_ptr_other (w : World) (d : Nat) {a b : Addr} {ca cb : Array Value} {ta tb : TypeId} (hne : a ≠ b) (ha : w.heap[a.block]? = some (.cells ca ta (0, 0))) (hb : w.heap[b.block]? = some (.cells cb tb (0, 0))) : (Op.equalIn (d + 1) 152 (.pointer (some a)) (.pointer (some b))).run Tryz.prog w = .ok false w := by
  obtain ⟨n, h0, h1⟩ := run_sizeOf_ty w
  simp [Op.equalIn, run_underlying Tryz.underlying152, Result.andThen, h0, h1, run_sameAddr_other w hne ha hb]

theorem pl_eq_same (w : World) (d : Nat) (k : Pl) : (Op.equalIn (d + 2) 154 (plVal k) (plVal k)).run Tryz.prog w = .ok true w := by
  cases k with
  | none => simpa [plVal] using run_pl_eq w d none none 0 0 true (run_ptr_nil w d)
  | some p => simpa [plVal] using run_pl_eq w d (some ⟨p.1, 0, none⟩) (some ⟨p.1, 0, none⟩) p.2 p.2 true (run_ptr_same w d _)
theorem pl_eq_other {w1 : World} {B mb : Nat} (w : World) (d : Nat) (k k' : Pl) (hw : PlWd w1 B mb w) (hk : PlOk w1 B mb k) (hk' : PlOk w1 B mb k') (hne : k ≠ k') : (Op.equalIn (d + 2) 154 (plVal k) (plVal k')).run Tryz.prog w = .ok false w := by
  match k, k', hk, hk', hne with
  | none, none, _, _, h => exact absurd rfl h
  | none, some (g, n), _, _, _ => simpa [plVal] using run_pl_eq w d none (some ⟨g, 0, none⟩) 0 n false (run_ptr_nil1 w d _)
  | some (g, n), none, _, _, _ => simpa [plVal] using run_pl_eq w d (some ⟨g, 0, none⟩) none n 0 false (run_ptr_nil2 w d _)
  | some (g, n), some (g', n'), hk, hk', hne =>
    by_cases hg : g = g'
    · subst hg
      have hn : ((n : Int) == (n' : Int)) = false := by
        rw [beq_eq_false_iff_ne]
        intro e
        exact hne (by rw [show n = n' by omega])
      simpa [plVal, hn] using run_pl_eq w d (some ⟨g, 0, none⟩) (some ⟨g, 0, none⟩) n n' true (run_ptr_same w d _)
    · obtain ⟨b1, b2, cs, t, b3⟩ := hk g n rfl
      obtain ⟨c1, c2, cs', t', c3⟩ := hk' g' n' rfl
      simpa [plVal] using run_pl_eq w d (some ⟨g, 0, none⟩) (some ⟨g', 0, none⟩) n n' false (run_ptr_other w d (a := ⟨g, 0, none⟩) (b := ⟨g', 0, none⟩) (fun e => hg (by injection e)) ((hw g b1 b2).trans b3) ((hw g' c1 c2).trans c3))

theorem pl_check (w : World) (em : Bool) (n : Nat) (k : Pl) : (Instr.checkKey em (n + 2) 154 (plVal k)).run Tryz.prog w = .ok () w := by
  have h2 : ∀ a b : Value, (∃ p m, a = .pointer p ∧ b = .int .i64 m) → (Instr.checkKey em (n + 2) 154 (.agg #[a, b])).run Tryz.prog w = .ok () w := by
    rintro a b ⟨p, m, rfl, rfl⟩
    obtain ⟨f0, f1, hl, n0, t0, o0, n1, t1, o1⟩ := pl_fields2
    have c0 : (Instr.checkKey em (n + 1) 152 (.pointer p)).run Tryz.prog w = .ok () w := by simp [Instr.checkKey, run_underlying Tryz.underlying152, Result.andThen]
    have c1 : (Instr.checkKey em (n + 1) 3 (.int .i64 m)).run Tryz.prog w = .ok () w := by simp [Instr.checkKey, run_underlying Tryz.underlying3, Result.andThen]
    unfold Instr.checkKey
    simp only [Sem.run_bind, run_underlying pl_struct, Result.andThen_ok]
    rw [← Array.forIn_toList, hl]
    simp [n0, t0, o0, n1, t1, o1, run_pl_part0, run_pl_part1, c0, c1, Result.andThen]
  match k with
  | none => exact h2 _ _ ⟨_, _, rfl, rfl⟩
  | some (g, m) => exact h2 _ _ ⟨_, _, rfl, rfl⟩

/-- Places as keys. -/
theorem plKit (w1 : World) (B mb : Nat) : KeyKit Tryz.prog 154 plVal (PlWd w1 B mb) (PlOk w1 B mb) where
  find := fun w k es => findKey_wide pl_struct rfl w _ es
  check := fun w em k => pl_check w em 9998 k
  same := fun w k => pl_eq_same w 9998 k
  other := fun w k k' hw hk hk' hne => pl_eq_other w 9998 k k' hw hk hk' hne
  stays := fun w k => by
    match k with
    | none => exact stays_agg w _ (by simp [Instr.sameBits])
    | some (g, n) => exact stays_agg w _ (by simp [Instr.sameBits])
  inj := plVal_inj

end Go.Proofs.YthdfidhijmcbdaaGreatDoor.O
