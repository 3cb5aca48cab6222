/- Lemmas: Law, LawLaid, Append, RowS, TyIn, Place, Sz, SzTy, ToTy, SpecTy2, EqTy. -/
import Derived.ProofKit
import Derived.OpenShut
import Derived.SizedLaws
import Derived.SliceStrings
import Derived.ShutString
import Derived.ChangeOld
import Derived.Below
import Derived.LaidMore
import Derived.Lay
import Derived.LaidLaws
import Derived.Stop.Joined
import Derived.Lib.LaidTab
import Derived.MakeChecks
import Derived.OpenVars
import Derived.WalkKit
import Derived.Lib.Hide
import Derived.Lib.ItoaNum
import Derived.Laws.BytesArg
import Derived.BigQuiet
import Derived.Deep.QuietTactic
import Derived.Deep.Draws
import Derived.RegionTactic
import Derived.Laws.AppendOwn
import Derived.OwnWalk
import Derived.Lib.AppendStr
import Derived.Deep.RegionLaw
import Derived.Test.YtlmbnefoobameaaGreatDoorProg
import Derived.Deep.RegionHeld3
import Derived.Laws.IdiomCopy
import Derived.Maps.OwnSet
import Derived.Laws.StructEq
import Derived.LaidEql
import Derived.Laws.IdiomStrings
import Derived.Outline

section
namespace Go.Proofs.YtlmbnefoobameaaGreatDoor
open Go.ChangeShapes Go.WideShapes Go.ChangeAt Go.RowKit

/-- True is handed back, and nothing below the heap's old size has turned. -/
def TrueBelow (w : World) (e : Ending) (w' : World) : Prop := e = .returned (.bool true) ∧ Below w.heap.size w w'

theorem bounds_int {n : Int} (h : (Lit.int .i64 n).wf = true) : -(2 ^ 63) ≤ n ∧ n ≤ 2 ^ 63 - 1 := by
  have h1 : IntKind.i64.min = -9223372036854775808 := rfl
  have h2 : IntKind.i64.max = 9223372036854775807 := rfl
  simp only [Lit.wf, Bool.and_eq_true, decide_eq_true_eq, h1, h2] at h
  omega
theorem bounds_byte {n : Int} (h : (Lit.int .u8 n).wf = true) : 0 ≤ n ∧ n ≤ 255 := by
  have h1 : IntKind.u8.min = 0 := rfl
  have h2 : IntKind.u8.max = 255 := rfl
  simp only [Lit.wf, Bool.and_eq_true, decide_eq_true_eq, h1, h2] at h
  omega

section
variable {H : Type} {enc : TypeId × Value → H} {P : Program}

theorem below_trodAll (hl : laidOutB P = true) {W W' : World} (hb : Below W.heap.size W W') :
    ∀ (ts : List TypeId) (vs : List Value) (ds : List (DataW H)) (ps : List MemPlace), (∀ t ∈ ts, P.readableRec t = true ∧ t < P.types.size) → (∀ x ∈ ps, x.block < W.heap.size) →
      DataW.TrodAll enc P W 0 (fun _ => true) true ts vs ds ps → DataW.TrodAll enc P W' 0 (fun b => decide (b < W.heap.size)) true ts vs ds ps
  | [], vs, ds, ps, _, _, h => by
    obtain ⟨rfl, rfl, rfl⟩ := trodAll_nil h
    exact trodAll_mk0
  | t :: ts, vs, ds, ps, ht, hp, h => by
    obtain ⟨v, vs', d, ds', p, q, rfl, rfl, rfl, h0, h1⟩ := trodAll_cons h
    have ht0 := ht t (by simp)
    exact trodAll_cons_mk (Below.trod hl ht0.1 ht0.2 h0 hb (fun x hx => hp x (by simp [hx]))) (below_trodAll hl hb ts vs' ds' q (fun t' h' => ht t' (by simp [h'])) (fun x hx => hp x (by simp [hx])) h1)

/-- A law without package variables. -/
theorem law_lifted {C : Checked} {os : Os} {f : FuncId} {fn : Func} {s : ChangeSpec} {bt : TypeId} (own : ownKnob C.prog.godebug = none) (hl : laidOutB C.prog = true) (started : os.Started) (noInit : C.prog.inits.idxOf? f = none)
    (hfn : C.prog.funcs[f]? = some fn) (hv : s.vars = []) (hrt : fn.resultTypes.toList = [bt]) (hbt : C.prog.underlying bt = some .bool)
    (hts0 : (fn.params.toList.all fun t => C.prog.readableRec t && decide (t < C.prog.types.size)) = true)
    (hs : ∀ ds : List (DataW H), ds.length = fn.params.size → s.fn H (ds ++ []) = { results := [.lit (.bool true)], args := ds })
    (witness : ∃ (w : World) (tape : Tape) (i : Input), w.os = os ∧ (w.forCall tape i).Shaped C.prog ∧ i.vars = [] ∧ Input.okWide C.prog (w.forCall tape i) .any w.heap.size f i ∧
      s.pre6 enc C.prog fn [] false (w.forCall tape i).memory i.args ∧ ({} : Assume).holds C.prog (lone (Frame.enter C.prog f i.args .normal) [] (w.forCall tape i)))
    (walk : ∀ (W : World) (base : Nat) (args : Array Value) (ds : List (DataW H)) (p : List MemPlace),
      (∀ (j : Nat) t v, fn.params[j]? = some t → args[j]? = some v → Value.okWide C.prog W .any base t v) →
      DataW.TrodAll enc C.prog W 0 (fun _ => true) true fn.params.toList args.toList ds p → (∀ x ∈ p, x.block < W.heap.size) →
      Calls C.prog f args W (TrueBelow W)) :
    ReturnsInHanded {} C os f .any (s.pre6 enc C.prog fn [] false) (s.post enc C.prog fn false true false false) := by
  have hts : ∀ t ∈ fn.params.toList, C.prog.readableRec t = true ∧ t < C.prog.types.size := fun t ht => by
    have := List.all_eq_true.1 hts0 t ht
    rw [Bool.and_eq_true, decide_eq_true_eq] at this
    exact this
  refine returnsInHanded_of_change_sized own started noInit hfn witness ?_
  intro W base args ds gs before hval hW _ _ _
  have hW' := hW
  obtain ⟨p, q, hA, hV, rfl, _, _⟩ := hW
  rw [hv] at hV
  obtain ⟨rfl, rfl⟩ := trodVars_none hV
  have hlt : ∀ x ∈ p, x.block < W.heap.size := fun x hx => by simpa using hW'.lt x (by simp [hx])
  have hlen : ds.length = fn.params.size := by
    have : ∀ (ts : List TypeId) (vs : List Value) (ds : List (DataW H)) (ps : List MemPlace), DataW.TrodAll enc C.prog W 0 (fun _ => true) true ts vs ds ps → ds.length = ts.length := by
      intro ts
      induction ts with
      | nil => intro vs ds ps h; obtain ⟨_, rfl, _⟩ := trodAll_nil h; rfl
      | cons t ts ih =>
        intro vs ds ps h
        obtain ⟨v, vs', d, ds', p, q, rfl, rfl, rfl, _, h1⟩ := trodAll_cons h
        simp [ih vs' ds' q h1]
    simpa using this _ _ _ _ hA
  refine (walk W base args ds p hval hA hlt).mono fun e W' ⟨he, hb⟩ => ?_
  subst he
  refine ⟨_, rfl, ds, [], p ++ [], [], p, [], hW', ?_, ?_, ?_, hb.frame _, fun h => by cases h⟩
  · have : (Value.bool true).resultList fn.resultTypes.size = [.bool true] := by
      have : fn.resultTypes.size = 1 := by rw [← Array.length_toList, hrt]; rfl
      rw [this]; rfl
    rw [this, hrt, hs ds hlen]
    exact trodAll_mk1 (shut_bool hbt true)
  · rw [hs ds hlen]
    exact below_trodAll hl hb _ _ _ _ hts hlt hA
  · rw [hs ds hlen, hv]
    rfl

end
end Go.Proofs.YtlmbnefoobameaaGreatDoor
end

section
namespace Go.Proofs.YtlmbnefoobameaaGreatDoor
open Go.ChangeShapes Go.WideShapes Go.ChangeAt Go.RowKit

section
variable {H : Type} {enc : TypeId × Value → H}

theorem law_lifted_laid {C : Checked} {os : Os} {f : FuncId} {fn : Func} {s : ChangeSpec} {bt : TypeId} {laid : List (String × DataW Unit)} (own : ownKnob C.prog.godebug = none) (hl : laidOutB C.prog = true) (started : os.Started) (noInit : C.prog.inits.idxOf? f = none)
    (hfn : C.prog.funcs[f]? = some fn) (hv : s.vars = []) (hrt : fn.resultTypes.toList = [bt]) (hbt : C.prog.underlying bt = some .bool)
    (hts0 : (fn.params.toList.all fun t => C.prog.readableRec t && decide (t < C.prog.types.size)) = true)
    (hs : ∀ ds : List (DataW H), ds.length = fn.params.size → s.fn H (ds ++ []) = { results := [.lit (.bool true)], args := ds })
    (witness : ∃ (w : World) (tape : Tape) (i : Input), w.os = os ∧ (w.forCall tape i).Shaped C.prog ∧ i.vars = [] ∧ Input.okWide C.prog (w.forCall tape i) .any w.heap.size f i ∧
      ((s.pre enc C.prog fn [] false (w.forCall tape i).memory i.args ∧ laidMetH C.prog laid (w.forCall tape i).memory) ∧ sizedMet enc C.prog fn (OpenSpec.ofChange s) false (w.forCall tape i).memory i.args) ∧
      ({} : Assume).holds C.prog (lone (Frame.enter C.prog f i.args .normal) [] (w.forCall tape i)))
    (walk : ∀ (W : World) (base : Nat) (args : Array Value) (ds : List (DataW H)) (p : List MemPlace),
      (∀ (j : Nat) t v, fn.params[j]? = some t → args[j]? = some v → Value.okWide C.prog W .any base t v) →
      DataW.TrodAll enc C.prog W 0 (fun _ => true) true fn.params.toList args.toList ds p → (∀ x ∈ p, x.block < W.heap.size) →
      laidMetH C.prog laid W → W.ShapedOpen C.prog → Calls C.prog f args W (TrueBelow W)) :
    ReturnsInHanded {} C os f .any (fun w args => (s.pre enc C.prog fn [] false w args ∧ laidMetH C.prog laid w) ∧ sizedMet enc C.prog fn (OpenSpec.ofChange s) false w args) (s.post enc C.prog fn false true false false) := by
  have hts : ∀ t ∈ fn.params.toList, C.prog.readableRec t = true ∧ t < C.prog.types.size := fun t ht => by
    have := List.all_eq_true.1 hts0 t ht
    rw [Bool.and_eq_true, decide_eq_true_eq] at this
    exact this
  refine returnsInHanded_of_calls own started noInit witness ?_
  intro w tape i _ hsh _ hok hpre hholds
  obtain ⟨_, _, _, fn', hfn', _, _, _, _, hval⟩ := hok
  have e : fn' = fn := Option.some.inj (hfn'.symm.trans hfn)
  subst e
  obtain ⟨⟨⟨ds, gs, before, hw, _⟩, hx⟩, _⟩ := hpre
  have hW' := DataW.Whole.of_heap (w' := w.forCall tape i) (by rfl) hw
  have hL : laidMetH C.prog laid (w.forCall tape i) := hx.of_heap (by rfl)
  generalize hWW : w.forCall tape i = W at *
  have hWk := hW'
  obtain ⟨p, q, hA, hV, rfl, _, _⟩ := hWk
  rw [hv] at hV
  obtain ⟨rfl, rfl⟩ := trodVars_none hV
  have hlt : ∀ x ∈ p, x.block < W.heap.size := fun x hx => by simpa using hW'.lt x (by simp [hx])
  have hlen : ds.length = fn'.params.size := by
    have : ∀ (ts : List TypeId) (vs : List Value) (ds : List (DataW H)) (ps : List MemPlace), DataW.TrodAll enc C.prog W 0 (fun _ => true) true ts vs ds ps → ds.length = ts.length := by
      intro ts
      induction ts with
      | nil => intro vs ds ps h; obtain ⟨_, rfl, _⟩ := trodAll_nil h; rfl
      | cons t ts ih =>
        intro vs ds ps h
        obtain ⟨v, vs', d, ds', p, q, rfl, rfl, rfl, _, h1⟩ := trodAll_cons h
        simp [ih vs' ds' q h1]
    simpa using this _ _ _ _ hA
  refine (walk W w.heap.size i.args ds p hval hA hlt hL hsh).mono fun e W' ⟨he, hb⟩ => ?_
  subst he
  have hp : s.post enc C.prog fn' false true false false W i.args (.bool true) W' := by
    refine ⟨ds, [], p ++ [], [], p, [], hW', ?_, ?_, ?_, hb.frame _, fun h => by cases h⟩
    · have : (Value.bool true).resultList fn'.resultTypes.size = [.bool true] := by
        have : fn'.resultTypes.size = 1 := by rw [← Array.length_toList, hrt]; rfl
        rw [this]; rfl
      rw [this, hrt, hs ds hlen]
      exact trodAll_mk1 (shut_bool hbt true)
    · rw [hs ds hlen]
      exact below_trodAll hl hb _ _ _ _ hts hlt hA
    · rw [hs ds hlen, hv]
      rfl
  exact ChangeSpec.post_blind hp

end


section
variable {H : Type} {enc : TypeId × Value → H}

theorem trodVars_len {P : Program} {w : World} {sp : Nat → Bool} : ∀ {ns : List String} {gs : List (DataW H)} {ps : List MemPlace}, DataW.TrodVars enc P w sp ns gs ps → gs.length = ns.length
  | [], [], _, _ => rfl
  | [], _ :: _, _, h => h.elim
  | _ :: _, [], _, h => h.elim
  | n :: ns, d :: ds, ps, h => by
    obtain ⟨g, t, cs, fuel, p, q, h1, h2, h3, h4, hs, e⟩ := h
    simp [trodVars_len hs]

/-- The same where the specification hands on the readings of variables. -/
theorem law_lifted_vars {C : Checked} {os : Os} {f : FuncId} {fn : Func} {s : ChangeSpec} {bt : TypeId} {laid : List (String × DataW Unit)} (own : ownKnob C.prog.godebug = none) (hl : laidOutB C.prog = true) (started : os.Started) (noInit : C.prog.inits.idxOf? f = none)
    (hfn : C.prog.funcs[f]? = some fn) (hv : varsRowed C.prog s.vars = true) (hrt : fn.resultTypes.toList = [bt]) (hbt : C.prog.underlying bt = some .bool)
    (hts0 : (fn.params.toList.all fun t => C.prog.readableRec t && decide (t < C.prog.types.size)) = true)
    (hs : ∀ ds gs : List (DataW H), ds.length = fn.params.size → gs.length = s.vars.length → s.fn H (ds ++ gs) = { results := [.lit (.bool true)], args := ds, vars := gs })
    (witness : ∃ (w : World) (tape : Tape) (i : Input), w.os = os ∧ (w.forCall tape i).Shaped C.prog ∧ i.vars = [] ∧ Input.okWide C.prog (w.forCall tape i) .any w.heap.size f i ∧
      ((s.pre enc C.prog fn [] false (w.forCall tape i).memory i.args ∧ laidMetH C.prog laid (w.forCall tape i).memory) ∧ sizedMet enc C.prog fn (OpenSpec.ofChange s) false (w.forCall tape i).memory i.args) ∧
      ({} : Assume).holds C.prog (lone (Frame.enter C.prog f i.args .normal) [] (w.forCall tape i)))
    (walk : ∀ (W : World) (base : Nat) (args : Array Value) (ds : List (DataW H)) (p : List MemPlace),
      (∀ (j : Nat) t v, fn.params[j]? = some t → args[j]? = some v → Value.okWide C.prog W .any base t v) →
      DataW.TrodAll enc C.prog W 0 (fun _ => true) true fn.params.toList args.toList ds p → (∀ x ∈ p, x.block < W.heap.size) →
      laidMetH C.prog laid W → W.ShapedOpen C.prog → Calls C.prog f args W (TrueBelow W)) :
    ReturnsInHanded {} C os f .any (fun w args => (s.pre enc C.prog fn [] false w args ∧ laidMetH C.prog laid w) ∧ sizedMet enc C.prog fn (OpenSpec.ofChange s) false w args) (s.post enc C.prog fn false true false false) := by
  have hts : ∀ t ∈ fn.params.toList, C.prog.readableRec t = true ∧ t < C.prog.types.size := fun t ht => by
    have := List.all_eq_true.1 hts0 t ht
    rw [Bool.and_eq_true, decide_eq_true_eq] at this
    exact this
  refine returnsInHanded_of_calls own started noInit witness ?_
  intro w tape i _ hsh _ hok hpre hholds
  obtain ⟨_, _, _, fn', hfn', _, _, _, _, hval⟩ := hok
  have e : fn' = fn := Option.some.inj (hfn'.symm.trans hfn)
  subst e
  obtain ⟨⟨⟨ds, gs, before, hw, _⟩, hx⟩, _⟩ := hpre
  have hW' := DataW.Whole.of_heap (w' := w.forCall tape i) (by rfl) hw
  have hL : laidMetH C.prog laid (w.forCall tape i) := hx.of_heap (by rfl)
  generalize hWW : w.forCall tape i = W at *
  have hWk := hW'
  obtain ⟨p, q, hA, hV, rfl, _, _⟩ := hWk
  have hlt : ∀ x ∈ p, x.block < W.heap.size := fun x hx => by simpa using hW'.lt x (by simp [hx])
  have hlen : ds.length = fn'.params.size := by
    have : ∀ (ts : List TypeId) (vs : List Value) (ds : List (DataW H)) (ps : List MemPlace), DataW.TrodAll enc C.prog W 0 (fun _ => true) true ts vs ds ps → ds.length = ts.length := by
      intro ts
      induction ts with
      | nil => intro vs ds ps h; obtain ⟨_, rfl, _⟩ := trodAll_nil h; rfl
      | cons t ts ih =>
        intro vs ds ps h
        obtain ⟨v, vs', d, ds', p, q, rfl, rfl, rfl, _, h1⟩ := trodAll_cons h
        simp [ih vs' ds' q h1]
    simpa using this _ _ _ _ hA
  have hgl := trodVars_len hV
  refine (walk W w.heap.size i.args ds p hval hA hlt hL hsh).mono fun e W' ⟨he, hb⟩ => ?_
  subst he
  have hp : s.post enc C.prog fn' false true false false W i.args (.bool true) W' := by
    refine ⟨ds, gs, p ++ q, [], p, q, hW', ?_, ?_, ?_, hb.frame _, fun h => by cases h⟩
    · have : (Value.bool true).resultList fn'.resultTypes.size = [.bool true] := by
        have : fn'.resultTypes.size = 1 := by rw [← Array.length_toList, hrt]; rfl
        rw [this]; rfl
      rw [this, hrt, hs ds gs hlen hgl]
      exact trodAll_mk1 (shut_bool hbt true)
    · rw [hs ds gs hlen hgl]
      exact below_trodAll hl hb _ _ _ _ hts hlt hA
    · rw [hs ds gs hlen hgl]
      exact Below.trodVars hl hb hv hV
  exact ChangeSpec.post_blind hp

end

/-- A listed variable's reading. -/
theorem laidVars_mem {P : Program} {W : World} {n : String} {d : DataW Unit} : ∀ {L : List (String × DataW Unit)} {ps : List MemPlace}, DataW.LaidVars P W L ps → (n, d) ∈ L →
    ∃ g t cs fuel p, P.globalNamed n = some g ∧ (P.globals[g]?).map (·.type) = some t ∧ W.var? P n = some cs ∧ DataW.trod (fun _ => ()) P W 0 (fun _ => true) false fuel t cs.toList = some (d, p)
  | [], _, _, hm => by simp at hm
  | (n', d') :: L, ps, h, hm => by
    obtain ⟨g, t, cs, fuel, p, q, h1, h2, h3, h4, h5, _⟩ := h
    rcases List.mem_cons.1 hm with e | hm
    · cases e
      exact ⟨g, t, cs, fuel, p, h1, h2, h3, h4⟩
    · exact laidVars_mem h5 hm

/-- A listed table of integers. -/
theorem tab_of_laid {P : Program} {W : World} {L : List (String × DataW Unit)} {name : String} {k : IntKind} {zs : List Int} {g : Nat} {t e : TypeId} {n : Nat}
    (hg : P.globalNamed name = some g) (hty : (P.globals[g]?).map (·.type) = some t) (ht : P.underlying t = some (.array n e)) (he : P.underlying e = some (.int k)) (hce : P.cellsOf e = 1) (hct : P.cellsOf t = n)
    (h : laidMet P L W) (hm : (name, Lib.tabData k zs) ∈ L) : Lib.TabIs P W name k zs := by
  obtain ⟨ps, hv, _⟩ := h
  obtain ⟨g', t', cs, fuel, p, hg', ht', hvar, hd⟩ := laidVars_mem hv hm
  obtain rfl := Option.some.inj (hg.symm.trans hg')
  obtain rfl := Option.some.inj (hty.symm.trans ht')
  unfold Lib.TabIs
  rw [hvar, ← Lib.cells_of_tab ht he hce hct hd]

/-- A listed value of an interface type that is not nil. -/
theorem iface_of_laid {P : Program} {W : World} {L : List (String × DataW Unit)} {name u : String} {d : DataW Unit} {g : Nat} {t : TypeId} {ms : Array (String × TypeId)}
    (hg : P.globalNamed name = some g) (hty : (P.globals[g]?).map (·.type) = some t) (ht : P.underlying t = some (.interface ms))
    (h : laidMet P L W) (hm : (name, .iface u d) ∈ L) : ∃ tp v, W.var? P name = some #[.iface tp v] := by
  obtain ⟨ps, hv, _⟩ := h
  obtain ⟨g', t', cs, fuel, p, hg', ht', hvar, hd⟩ := laidVars_mem hv hm
  obtain rfl := Option.some.inj (hg.symm.trans hg')
  obtain rfl := Option.some.inj (hty.symm.trans ht')
  cases fuel with
  | zero => simp [DataW.trod] at hd
  | succ m =>
    simp only [DataW.trod, ht] at hd
    obtain ⟨l⟩ := cs
    match l, hd with
    | [], hd => simp at hd
    | [v], hd =>
      cases v with
      | iface tp v => exact ⟨tp, v, by rw [hvar]⟩
      | nilIface => simp at hd
      | _ => simp at hd
    | _ :: _ :: _, hd => simp at hd

end Go.Proofs.YtlmbnefoobameaaGreatDoor
end

section
namespace Go.Proofs.YtlmbnefoobameaaGreatDoor
open Go.RowKit

/-- The digits of u, none for 0. -/
def nz (u : Nat) : List UInt8 := if u = 0 then [] else Lib.decDigits u
theorem nz_step (u : Nat) (h : 0 < u) : nz u = nz (u / 10) ++ [UInt8.ofNat (48 + u % 10)] := by
  unfold nz
  rw [if_neg (by omega), Lib.decDigits]
  by_cases h1 : u < 10
  · rw [dif_pos h1, if_pos (by omega), show u % 10 = u by omega]
    rfl
  · rw [dif_neg h1, if_neg (by omega)]

theorem nz_len (n : Nat) : (nz n).length ≤ n := by
  induction n using Nat.strongRecOn with
  | ind n ih =>
    by_cases h : n = 0
    · subst h; simp [nz]
    · have := ih (n / 10) (by omega)
      rw [nz_step n (by omega), List.length_append]
      simp
      omega
theorem nz_len_of (k : Nat) : ∀ n, n < 10 ^ k → (nz n).length ≤ k := by
  induction k with
  | zero => 
    intro n h
    have h0 : n = 0 := by rw [Nat.pow_zero] at h; omega
    subst h0
    simp [nz]
  | succ k ih =>
    intro n h
    by_cases h0 : n = 0
    · subst h0; simp [nz]
    · have := ih (n / 10) (by rw [Nat.div_lt_iff_lt_mul (by omega)]; rw [Nat.pow_succ] at h; exact h)
      rw [nz_step n (by omega), List.length_append]
      simp
      omega
theorem nz_pos (n : Nat) (h : 0 < n) : 0 < (nz n).length := by
  rw [nz_step n h, List.length_append]
  simp

/-- string([]byte{x}). -/
theorem run_convert_byte {P : Program} {src e dst : TypeId} (hs : P.underlying src = some (.slice e)) (he : P.underlying e = some (.int .u8)) (hd : P.underlying dst = some .string) (W : World) (x : Int) :
    (convert src dst (.slice (some ⟨W.heap.size, 0, none⟩) 1 1)).run P (W.alloc (.cells #[.int .u8 x] e)) = .ok (.string ⟨#[UInt8.ofNat x.toNat]⟩) (W.alloc (.cells #[.int .u8 x] e)) := by
  refine run_convert_bytes_arg _ src e hs he W.heap.size 0 1 1 [x] rfl (fun i hi => ?_) dst hd
  have h0 : i = 0 := by omega
  subst h0
  rw [World.cell?_alloc_at _ _ _ _ rfl]
  rfl

end Go.Proofs.YtlmbnefoobameaaGreatDoor

namespace Go.Proofs.YtlmbnefoobameaaGreatDoor
open Go.RowKit

/-- The slice of address A holds the strings ss, below block B. -/
def StrsAt (w : World) (B : Nat) (A : Option Addr) (ss : List ByteArray) : Prop :=
  ∀ i, (h : i < ss.length) → ∃ b off, A = some ⟨b, off, none⟩ ∧ b < B ∧ w.cell? ⟨b, off + i, none⟩ = some (.string ss[i])

theorem StrsAt.empty (w : World) (B : Nat) (A : Option Addr) : StrsAt w B A [] := fun i h => absurd h (by simp)
theorem StrsAt.keep {w w' : World} {B : Nat} {A : Option Addr} {ss : List ByteArray} (h : StrsAt w B A ss) (hk : ∀ p : Addr, p.block < B → w'.cell? p = w.cell? p) : StrsAt w' B A ss := fun i hi => by
  obtain ⟨b, off, h1, h2, h3⟩ := h i hi
  exact ⟨b, off, h1, h2, (hk _ h2).trans h3⟩
theorem StrsAt.below {w w' : World} {B : Nat} {A : Option Addr} {ss : List ByteArray} (h : StrsAt w B A ss) (hb : Below B w w') : StrsAt w' B A ss := h.keep fun _ hp => hb.cell hp
theorem StrsAt.more {w : World} {B B' : Nat} {A : Option Addr} {ss : List ByteArray} (h : StrsAt w B A ss) (hB : B ≤ B') : StrsAt w B' A ss := fun i hi => by
  obtain ⟨b, off, h1, h2, h3⟩ := h i hi
  exact ⟨b, off, h1, by omega, h3⟩
theorem StrsAt.drewN {w : World} {B : Nat} {A : Option Addr} {ss : List ByteArray} (h : StrsAt w B A ss) (k : Nat) : StrsAt (w.drewN k) B A ss := h

/-- A block that is known whole. -/
def Whole1 (w : World) (g : Nat) (t : TypeId) (cs : Array Value) : Prop := w.heap[g]? = some (.cells cs t (0, 0))
theorem Whole1.lt {w : World} {g : Nat} {t : TypeId} {cs : Array Value} (h : Whole1 w g t cs) : g < w.heap.size := by
  unfold Whole1 at h
  by_cases hlt : g < w.heap.size
  · exact hlt
  · rw [Array.getElem?_eq_none (by omega)] at h; cases h
theorem Whole1.cell {w : World} {g : Nat} {t : TypeId} {cs : Array Value} (h : Whole1 w g t cs) (i : Nat) : w.cell? ⟨g, i, none⟩ = cs[i]? := cell_of_row w g i cs t (0, 0) h
theorem Whole1.free {w : World} {g : Nat} {t : TypeId} {cs : Array Value} (h : Whole1 w g t cs) (i : Nat) : w.frozen? ⟨g, i, none⟩ = false := frozen_of_row w g i cs t h
theorem Whole1.set {w : World} {g : Nat} {t : TypeId} {cs : Array Value} (h : Whole1 w g t cs) (i : Nat) (u : Value) : Whole1 (w.setCell ⟨g, i, none⟩ u) g t (cs.setIfInBounds i u) := by
  unfold Whole1 at h ⊢
  simp [World.setCell, Array.getElem?_modify, h]
theorem Whole1.below {w w' : World} {g B : Nat} {t : TypeId} {cs : Array Value} (h : Whole1 w g t cs) (hb : Below B w w') (hg : g < B) : Whole1 w' g t cs := (hb.block g hg).trans h
theorem Whole1.drewN {w : World} {g : Nat} {t : TypeId} {cs : Array Value} (h : Whole1 w g t cs) (k : Nat) : Whole1 (w.drewN k) g t cs := h
theorem Whole1.new (w : World) (t : TypeId) (cs : Array Value) : Whole1 (w.alloc (.cells cs t)) w.heap.size t cs := heap_alloc_new w _

/-- Only row g, and what is new, has turned. -/
theorem only_below {a w w' : World} {row : Option Nat} (h : a.grownBy w row) (hb : Below w.heap.size w w') : a.grownBy w' row :=
  ⟨hb.os.trans h.os, hb.tape.trans h.tape, hb.output.trans h.output, Nat.le_trans h.size hb.size, fun i hi hne => (hb.block i (Nat.lt_of_lt_of_le hi h.size)).trans (h.block i hi hne)⟩
theorem only_set {a w : World} {g : Nat} (h : a.grownBy w (some g)) (i : Nat) (v : Value) : a.grownBy (w.setCell ⟨g, i, none⟩ v) (some g) :=
  ⟨h.os, h.tape, h.output, by simpa [World.setCell] using h.size, fun k hk hne => (Below.heap_setCell w ⟨g, i, none⟩ v k (fun e => hne (by rw [e]))).trans (h.block k hk hne)⟩
theorem only_refl (w : World) (row : Option Nat) : w.grownBy w row := ⟨rfl, rfl, rfl, Nat.le_refl _, fun _ _ _ => rfl⟩

theorem only_drewN {a w : World} {row : Option Nat} (h : a.grownBy w row) (n : Nat) : a.grownBy (w.drewN n) row := ⟨h.os, h.tape, h.output, h.size, h.block⟩
theorem only_trans {a b c : World} {g : Nat} (h : a.grownBy b (some g)) (k : b.grownBy c (some g)) : a.grownBy c (some g) :=
  ⟨k.os.trans h.os, k.tape.trans h.tape, k.output.trans h.output, Nat.le_trans h.size k.size, fun i hi hne => (k.block i (Nat.lt_of_lt_of_le hi h.size) hne).trans (h.block i hi hne)⟩
/-- A row of the call's own may turn. -/
theorem below_only {B : Nat} {a w w' : World} {g : Nat} (h : Below B a w) (ho : w.grownBy w' (some g)) (hB : B ≤ w.heap.size) (hg : B ≤ g) : Below B a w' := h.grown ho hB (fun q hq => by cases hq; exact hg)

def strVals (ss : List ByteArray) : List Value := ss.map Value.string

theorem StrsAt.of_whole {w : World} {g : Nat} {t : TypeId} {ss : List ByteArray} (h : Whole1 w g t (strVals ss).toArray) (B : Nat) (hB : g < B) : StrsAt w B (some ⟨g, 0, none⟩) ss := fun i hi => by
  refine ⟨g, 0, rfl, hB, ?_⟩
  rw [Nat.zero_add, h.cell]
  simp [strVals, hi]

def sumSizes (ss : List ByteArray) : Nat := (ss.map (·.size)).sum
theorem sumSizes_take_succ (ss : List ByteArray) (k : Nat) (h : k < ss.length) : sumSizes (ss.take (k + 1)) = sumSizes (ss.take k) + ss[k].size := by
  unfold sumSizes
  rw [List.take_succ_eq_append_getElem h, List.map_append, List.sum_append]
  simp
theorem sumSizes_take_le (ss : List ByteArray) (k : Nat) : sumSizes (ss.take k) ≤ sumSizes ss := by
  unfold sumSizes
  conv => rhs; rw [← List.take_append_drop k ss]
  rw [List.map_append, List.sum_append]
  omega
theorem size_le_sumSizes (ss : List ByteArray) (k : Nat) (h : k < ss.length) : ss[k].size ≤ sumSizes ss := by
  have h1 := sumSizes_take_succ ss k h
  have h2 := sumSizes_take_le ss (k + 1)
  omega


/-- make([]string, n). -/
theorem run_make_strs {P : Program} {T E : TypeId} (ht : P.underlying T = some (.slice E)) (hi : (P.info? E).map (fun i => (i.zero, i.size, i.bytes)) = some (some (.string ⟨#[]⟩), 1, 16)) (n : Nat) (hn : n ≤ 1048576) (w : World) :
    (Instr.makeSlice T (.int .i64 (n : Int)) (.int .i64 (n : Int))).run P w = .ok (.slice (some ⟨w.heap.size, 0, none⟩) n n) (w.alloc (.cells (strVals (List.replicate n ⟨#[]⟩)).toArray E)) := by
  obtain ⟨i, h1, h2, h3, h4⟩ := info_parts hi
  have hr := run_make (P := P) w T E i _ ht h1 h2 .i64 .i64 n n (by omega) (by omega) (by rw [h4]; omega) (by omega)
  simp only [Int.toNat_natCast] at hr
  rw [hr]
  have e : madeCells (Value.string ⟨#[]⟩).cells (n * i.size) = (strVals (List.replicate n ⟨#[]⟩)).toArray := by
    rw [h3, Nat.mul_one]
    apply Array.ext'
    simp [Value.cells, toList_madeCells_one, strVals]
  rw [e]

/-- The strings of ss in the first k places, the empty string behind. -/
def filled (ss : List ByteArray) (k : Nat) : Array Value := ((List.range ss.length).map fun i => Value.string (if i < k then ss.getD i ⟨#[]⟩ else ⟨#[]⟩)).toArray
theorem filled_get (ss : List ByteArray) (k j : Nat) : (filled ss k)[j]? = if j < ss.length then some (Value.string (if j < k then ss.getD j ⟨#[]⟩ else ⟨#[]⟩)) else none := by
  by_cases h : j < ss.length
  · simp [filled, h]
  · simp [filled, h]
theorem filled_zero (ss : List ByteArray) : filled ss 0 = (strVals (List.replicate ss.length ⟨#[]⟩)).toArray := by
  apply Array.ext_getElem?
  intro j
  rw [filled_get]
  by_cases h : j < ss.length <;> simp [strVals, h]
theorem filled_all (ss : List ByteArray) : filled ss ss.length = (strVals ss).toArray := by
  apply Array.ext_getElem?
  intro j
  rw [filled_get]
  by_cases h : j < ss.length <;> simp [strVals, h]
theorem filled_succ (ss : List ByteArray) (k : Nat) (h : k < ss.length) : (filled ss k).setIfInBounds k (.string ss[k]) = filled ss (k + 1) := by
  apply Array.ext_getElem?
  intro j
  have hsz : (filled ss k).size = ss.length := by simp [filled]
  rw [filled_get, Array.getElem?_setIfInBounds, filled_get, hsz]
  by_cases h1 : k = j
  · subst h1
    simp [h]
  · by_cases h2 : j < k
    · simp [h1, h2, show j < k + 1 by omega]
    · simp [h1, h2, show ¬ j < k + 1 by omega]
theorem filled_at (ss : List ByteArray) (k i : Nat) (h : i < ss.length) : ∃ s, (filled ss k)[i]? = some (Value.string s) := ⟨_, by rw [filled_get, if_pos h]⟩

end Go.Proofs.YtlmbnefoobameaaGreatDoor

namespace Go.Proofs.YtlmbnefoobameaaGreatDoor
open Go.RowKit

/-- The slice of address A holds the cells xs, if there are any. -/
def CellsAt (w : World) (A : Option Addr) (xs : List Value) : Prop := xs = [] ∨ ∃ ad, A = some ad ∧ ∀ j u, xs[j]? = some u → w.cell? (ad.add j) = some u

theorem StrsAt.cells {w : World} {B : Nat} {A : Option Addr} {ss : List ByteArray} (h : StrsAt w B A ss) : CellsAt w A (strVals ss) := by
  by_cases h0 : ss = []
  · exact .inl (by simp [strVals, h0])
  · have hp : 0 < ss.length := List.length_pos_iff.2 h0
    obtain ⟨b, off, rfl, _, _⟩ := h 0 hp
    refine .inr ⟨_, rfl, fun j u hu => ?_⟩
    have hj : j < ss.length := by
      have := (List.getElem?_eq_some_iff.1 hu).1
      simpa [strVals] using this
    obtain ⟨b', off', e, _, hc⟩ := h j hj
    cases e
    rw [WideShapes.add_plain, hc]
    simpa [strVals, hj] using hu
theorem strVals_one (ss : List ByteArray) : ∀ u ∈ strVals ss, u.oneCell' = true := by
  intro u hu
  obtain ⟨s, _, rfl⟩ := List.mem_map.1 hu
  rfl

theorem cellNew (w : World) (t : TypeId) (x : Value) (j : Nat) (u : Value) (hj : [x][j]? = some u) : (w.alloc (.cells #[x] t)).cell? ((⟨w.heap.size, 0, none⟩ : Addr).add j) = some u := by
  have h0 : j = 0 := by
    have := (List.getElem?_eq_some_iff.1 hj).1
    simp at this
    exact this
  subst h0
  rw [WideShapes.add_plain, World.cell?_alloc_at _ _ _ _ rfl]
  simpa using hj

theorem own_strs {w : World} {base n : Nat} {e : TypeId} {v : Value} {xs : List Value} {ss : List ByteArray} (h : w.ownsRow base e 1 v n xs) (hx : strVals ss = xs) : w.ownsRow base e 1 v ss.length (strVals ss) := by
  have hl : xs.length = n := by simpa using h.1
  have : ss.length = n := by rw [← hl, ← hx]; simp [strVals]
  rw [this, hx]
  exact h

section
variable {P : Program} (w : World)
theorem append_nothing (base : Nat) (t ty e : TypeId) (i : TypeInfo) (size : Nat) (ht : P.underlying t = some (.slice e)) (hi : P.info? e = some i)
    (v : Value) (n : Nat) (xs : List Value) (hown : w.ownsRow base e size v n xs) (c : Nat) : (Builtin.append_ #[t, t] ty #[v, .slice none 0 c]).run P w = .ok v w := by
  rcases hown.2 with ⟨hv, hn⟩ | ⟨g, cap, cur, hv, _, _, hfit, _⟩
  · rw [hv]
    simp [Builtin.append_, Builtin.firstCells, Builtin.lenOf, typeInfo, sizeOf, run_underlying ht, hi]
  · rw [hv]
    simp [Builtin.append_, Builtin.firstCells, Builtin.lenOf, storeCells, typeInfo, sizeOf, run_underlying ht, hi, hfit]

theorem append_cells (base : Nat) (t ty e : TypeId) (i : TypeInfo) (z : Value) (size bytes : Nat) (ht : P.underlying t = some (.slice e)) (hi : P.info? e = some i) (hz : i.zero = some z)
    (hsize : i.size = size) (hby : i.bytes = bytes) (hzs : z.cells.size = size) (hsz : 0 < size)
    (v : Value) (n : Nat) (xs : List Value) (hown : w.ownsRow base e size v n xs)
    (A : Option Addr) (m c : Nat) (news : List Value) (hl : news.length = m * size) (hnews : CellsAt w A news) (h1 : ∀ u ∈ news, u.oneCell' = true)
    (h63 : n + m ≤ maxLen) (hbytes : (n + m) * bytes ≤ 140737488355328) (hbase : base ≤ w.heap.size) :
    ∃ v' w', (Builtin.append_ #[t, t] ty #[v, .slice A m c]).run P w = .ok v' w' ∧ w'.ownsRow base e size v' (n + m) (xs ++ news) ∧ w.grownBy w' v.ownBlock := by
  cases A with
  | none =>
    have hn : news = [] := by
      rcases hnews with h | ⟨ad, h, _⟩
      · exact h
      · cases h
    subst hn
    have hm : m = 0 := by
      rcases Nat.eq_zero_or_pos m with h | h
      · exact h
      · have := Nat.mul_pos h hsz
        simp at hl
        omega
    subst hm
    exact ⟨v, w, append_nothing w base t ty e i size ht hi v n xs hown c, by simpa using hown, only_refl w _⟩
  | some ad =>
    have hc : ∀ j u, news[j]? = some u → w.cell? (ad.add j) = some u := by
      rcases hnews with h | ⟨ad', h, h2⟩
      · subst h
        intro j u hu
        simp at hu
      · cases h
        exact h2
    obtain ⟨v', w', h2, h3, h4, _⟩ := run_append_own (P := P) w base t ty e i z size bytes ht hi hz hsize hby hzs hsz v n xs hown ad m c news hl hc h1 h63 hbytes hbase
    exact ⟨v', w', h2, h3, h4⟩

theorem wpList_append_cells {ops : Array Oper} {rest : List Oper} {o : Oper} {a : Act} {Q : Exit → Act → World → Prop} (hgd : o.guard = none) (s x : Operand) (t : TypeId)
    (ho : o.op = .call { callee := .builtin .append, args := #[s, x], argTypes := #[t, t] })
    (base : Nat) (e : TypeId) (i : TypeInfo) (z : Value) (size bytes : Nat) (ht : P.underlying t = some (.slice e)) (hi : P.info? e = some i) (hz : i.zero = some z)
    (hsize : i.size = size) (hby : i.bytes = bytes) (hzs : z.cells.size = size) (hsz : 0 < size)
    (v : Value) (n : Nat) (xs : List Value) (hs : a.eval s = v) (hown : w.ownsRow base e size v n xs)
    (A : Option Addr) (m c : Nat) (news : List Value) (hx : a.eval x = .slice A m c) (hl : news.length = m * size) (hnews : CellsAt w A news) (h1 : ∀ u ∈ news, u.oneCell' = true)
    (h63 : n + m ≤ maxLen) (hbytes : (n + m) * bytes ≤ 140737488355328) (hbase : base ≤ w.heap.size)
    (h : ∀ v' w', w'.ownsRow base e size v' (n + m) (xs ++ news) → w.grownBy w' v.ownBlock → wpList P ops Q rest (a.put o.dst v') w') : wpList P ops Q (o :: rest) a w := by
  refine wpList_plain hgd fun K hK => ?_
  obtain ⟨v', w', hr, h2, h3⟩ := append_cells (P := P) w base t o.type e i z size bytes ht hi hz hsize hby hzs hsz v n xs hown A m c news hl hnews h1 h63 hbytes hbase
  unfold Oper.wp execOp
  simp only [ho, resolve, invoke, builtin, Sem.run_bind, Sem.run_pure, Result.andThen_ok, List.map_toArray, List.map_cons, List.map_nil, hs, hx, hr]
  exact hK _ _ (h v' w' h2 h3)

/-- The same as one step of a region that draws its order. -/
theorem step_append_cells {ops : Array Oper} {o : Oper} {a : Act} {K : Act → World → Prop} {Q : Exit → Act → World → Prop} {E : Prop} (hgd : o.guard = none) (s x : Operand) (t : TypeId)
    (ho : o.op = .call { callee := .builtin .append, args := #[s, x], argTypes := #[t, t] })
    (base : Nat) (e : TypeId) (i : TypeInfo) (z : Value) (size bytes : Nat) (ht : P.underlying t = some (.slice e)) (hi : P.info? e = some i) (hz : i.zero = some z)
    (hsize : i.size = size) (hby : i.bytes = bytes) (hzs : z.cells.size = size) (hsz : 0 < size)
    (v : Value) (n : Nat) (xs : List Value) (hs : a.eval s = v) (hown : w.ownsRow base e size v n xs)
    (A : Option Addr) (m c : Nat) (news : List Value) (hx : a.eval x = .slice A m c) (hl : news.length = m * size) (hnews : CellsAt w A news) (h1 : ∀ u ∈ news, u.oneCell' = true)
    (h63 : n + m ≤ maxLen) (hbytes : (n + m) * bytes ≤ 140737488355328) (hbase : base ≤ w.heap.size)
    (h : ∀ v' w', w'.ownsRow base e size v' (n + m) (xs ++ news) → w.grownBy w' v.ownBlock → K (a.put o.dst v') w') : if Region.wanted o (yielded ops a.tmps) = true then Oper.wp P o a w K Q else E := by
  have hw : Region.wanted o (yielded ops a.tmps) = true := by simp [Region.wanted, hgd]
  rw [if_pos hw]
  obtain ⟨v', w', hr, h2, h3⟩ := append_cells (P := P) w base t o.type e i z size bytes ht hi hz hsize hby hzs hsz v n xs hown A m c news hl hnews h1 h63 hbytes hbase
  unfold Oper.wp execOp
  simp only [ho, resolve, invoke, builtin, Sem.run_bind, Sem.run_pure, Result.andThen_ok, List.map_toArray, List.map_cons, List.map_nil, hs, hx, hr]
  exact h v' w' h2 h3
end

end Go.Proofs.YtlmbnefoobameaaGreatDoor
end

section
namespace Go.Proofs.YtlmbnefoobameaaGreatDoor
open Go.RowKit

/-- The mark of k, from 1 on. -/
def markB (k : Nat) : ByteArray := ⟨(109 :: nz k).toArray⟩

theorem markB_size (n : Nat) (h : n ≤ 2 ^ 62) : (markB n).size ≤ 21 := by
  have := nz_len_of 20 n (by omega)
  show (109 :: nz n).toArray.size ≤ 21
  simp
  omega

/-- Marks from k on in the first j places of a row, what it held behind. -/
def marked (ss : List ByteArray) (k j : Nat) : List ByteArray := (List.range ss.length).map fun i => if i < j then markB (k + i) else ss.getD i ⟨#[]⟩
theorem marked_len (ss : List ByteArray) (k j : Nat) : (marked ss k j).length = ss.length := by simp [marked]
theorem marked_zero (ss : List ByteArray) (k : Nat) : marked ss k 0 = ss := by
  apply List.ext_getElem?
  intro i
  by_cases h : i < ss.length <;> simp [marked, h]
theorem marked_get (ss : List ByteArray) (k j i : Nat) (h : i < ss.length) : (marked ss k j)[i]? = some (if i < j then markB (k + i) else ss.getD i ⟨#[]⟩) := by simp [marked, h]
theorem marked_succ (ss : List ByteArray) (k j : Nat) (h : j < ss.length) : (strVals (marked ss k j)).toArray.setIfInBounds j (.string (markB (k + j))) = (strVals (marked ss k (j + 1))).toArray := by
  apply Array.ext_getElem?
  intro i
  rw [Array.getElem?_setIfInBounds]
  simp only [strVals, List.getElem?_toArray, List.getElem?_map, List.size_toArray, List.length_map, marked_len]
  by_cases hi : i < ss.length
  · rw [marked_get ss k j i hi, marked_get ss k (j + 1) i hi]
    by_cases e : j = i
    · subst e
      simp [h]
    · by_cases h2 : i < j
      · simp [e, h2, show i < j + 1 by omega]
      · simp [e, h2, show ¬ i < j + 1 by omega]
  · rw [if_neg (by omega), List.getElem?_eq_none (by rw [marked_len]; omega), List.getElem?_eq_none (by rw [marked_len]; omega)]

/-- The marks from k on. -/
def marks (k n : Nat) : List ByteArray := (List.range n).map fun i => markB (k + i)
theorem marked_all (ss : List ByteArray) (k : Nat) : marked ss k ss.length = marks k ss.length := by
  apply List.map_congr_left
  intro i hi
  rw [if_pos (List.mem_range.1 hi)]
theorem marks_len (k n : Nat) : (marks k n).length = n := by simp [marks]

/-- The row g bears the marks from k on; nothing else that was there has turned. -/
def Marked (w : World) (g k n : Nat) (e : Ending) (w' : World) : Prop :=
  e = .returned (.int .i64 ((k + n : Nat) : Int)) ∧ Whole1 w' g 9 (strVals (marks k n)).toArray ∧ w.grownBy w' (some g)

/-- The number behind the last mark; what was there stands. -/
def HeldTo (w : World) (n : Nat) (e : Ending) (w' : World) : Prop := e = .returned (.int .i64 (n : Int)) ∧ Below w.heap.size w w'

end Go.Proofs.YtlmbnefoobameaaGreatDoor

namespace Go.Proofs.YtlmbnefoobameaaGreatDoor
open Go.RowKit

/-- Block g is a row whose first cells are the strings ss. -/
def RowStrs (w : World) (g : Nat) (ss : List ByteArray) : Prop := ∃ cs : Array Value, Whole1 w g 9 cs ∧ ∀ i, (h : i < ss.length) → cs[i]? = some (.string ss[i])
theorem RowStrs.lt {w : World} {g : Nat} {ss : List ByteArray} (h : RowStrs w g ss) : g < w.heap.size := by
  obtain ⟨cs, h1, _⟩ := h
  exact h1.lt
theorem RowStrs.cell {w : World} {g : Nat} {ss : List ByteArray} (h : RowStrs w g ss) (i : Nat) (hi : i < ss.length) : w.cell? ⟨g, i, none⟩ = some (.string ss[i]) := by
  obtain ⟨cs, h1, h2⟩ := h
  rw [h1.cell, h2 i hi]
theorem RowStrs.free {w : World} {g : Nat} {ss : List ByteArray} (h : RowStrs w g ss) (i : Nat) : w.frozen? ⟨g, i, none⟩ = false := by
  obtain ⟨cs, h1, h2⟩ := h
  exact h1.free i
theorem RowStrs.at {w : World} {g : Nat} {ss : List ByteArray} (h : RowStrs w g ss) (B : Nat) (hB : g < B) : StrsAt w B (some ⟨g, 0, none⟩) ss := fun i hi => ⟨g, 0, rfl, hB, by rw [Nat.zero_add]; exact h.cell i hi⟩
theorem RowStrs.below {w w' : World} {g B : Nat} {ss : List ByteArray} (h : RowStrs w g ss) (hb : Below B w w') (hg : g < B) : RowStrs w' g ss := by
  obtain ⟨cs, h1, h2⟩ := h
  exact ⟨cs, h1.below hb hg, h2⟩
theorem RowStrs.drewN {w : World} {g : Nat} {ss : List ByteArray} (h : RowStrs w g ss) (k : Nat) : RowStrs (w.drewN k) g ss := h
theorem RowStrs.keep {w w' : World} {g x : Nat} {ss : List ByteArray} (h : RowStrs w g ss) (ho : w.grownBy w' (some x)) (hx : g ≠ x) : RowStrs w' g ss := by
  have hl := h.lt
  obtain ⟨cs, h1, h2⟩ := h
  exact ⟨cs, (ho.block g hl (fun e => hx (Option.some.inj e))).trans h1, h2⟩
theorem RowStrs.of_whole {w : World} {g : Nat} {ss : List ByteArray} (h : Whole1 w g 9 (strVals ss).toArray) : RowStrs w g ss := ⟨_, h, fun i hi => by simp [strVals, hi]⟩
theorem RowStrs.set {w : World} {g : Nat} {ss : List ByteArray} (h : RowStrs w g ss) (j : Nat) (hj : j < ss.length) (s : ByteArray) : RowStrs (w.setCell ⟨g, j, none⟩ (.string s)) g (ss.set j s) := by
  obtain ⟨cs, h1, h2⟩ := h
  refine ⟨_, h1.set j _, fun i hi => ?_⟩
  have hi' : i < ss.length := by simpa using hi
  have hjs : j < cs.size := (Array.getElem?_eq_some_iff.1 (h2 j hj)).1
  rw [Array.getElem?_setIfInBounds]
  by_cases e : j = i
  · subst e
    simp [hjs]
  · rw [if_neg e, h2 i hi', List.getElem_set_ne e]
theorem RowStrs.of_own {w : World} {base n : Nat} {v : Value} {ss : List ByteArray} (h : w.ownsRow base 9 1 v n (strVals ss)) : (v = .slice none 0 0 ∧ ss = []) ∨ ∃ g cap, v = .slice (some ⟨g, 0, none⟩) ss.length cap ∧ base ≤ g ∧ RowStrs w g ss := by
  have hl : ss.length = n := by simpa [strVals] using h.1
  rcases h.2 with ⟨h1, h2⟩ | ⟨g, cap, cur, h1, h2, h3, h4, h5, h6, h7⟩
  · exact .inl ⟨h1, List.length_eq_zero_iff.1 (by omega)⟩
  · refine .inr ⟨g, cap, by rw [h1, hl], h2, cur, h3, fun i hi => ?_⟩
    have : (cur.toList.take (n * 1))[i]? = some (.string ss[i]) := by rw [h7]; simp [strVals, hi]
    rw [List.getElem?_take] at this
    split at this
    · simpa using this
    · cases this
theorem StrsAt.of_own {w : World} {base n : Nat} {v : Value} {ss : List ByteArray} (h : w.ownsRow base 9 1 v n (strVals ss)) : ∃ A c, v = .slice A ss.length c ∧ StrsAt w w.heap.size A ss := by
  rcases RowStrs.of_own h with ⟨rfl, rfl⟩ | ⟨g, cap, rfl, _, h2⟩
  · exact ⟨none, 0, rfl, StrsAt.empty _ _ _⟩
  · exact ⟨_, _, rfl, h2.at _ h2.lt⟩

theorem marked_set (ss : List ByteArray) (k j : Nat) (h : j < ss.length) : (marked ss k j).set j (markB (k + j)) = marked ss k (j + 1) := by
  apply List.ext_getElem?
  intro i
  rw [List.getElem?_set]
  by_cases hi : i < ss.length
  · rw [marked_get ss k j i hi, marked_get ss k (j + 1) i hi, marked_len]
    by_cases e : j = i
    · subst e
      simp [h]
    · by_cases h2 : i < j
      · simp [e, h2, show i < j + 1 by omega]
      · simp [e, h2, show ¬ i < j + 1 by omega]
  · rw [if_neg (by omega), List.getElem?_eq_none (by rw [marked_len]; omega), List.getElem?_eq_none (by rw [marked_len]; omega)]

/-- The row g bears the marks from k on; nothing else that was there has turned. -/
def MarkedRow (w : World) (g k n : Nat) (e : Ending) (w' : World) : Prop :=
  e = .returned (.int .i64 ((k + n : Nat) : Int)) ∧ RowStrs w' g (marks k n) ∧ w.grownBy w' (some g)

end Go.Proofs.YtlmbnefoobameaaGreatDoor
end

section
namespace Go.Proofs.YtlmbnefoobameaaGreatDoor
open Go.RowKit

inductive Ty where
  | mk (k : Int) (ls : List ByteArray) (ts : List Ty)

def Ty.kind : Ty → Int | .mk k _ _ => k
def Ty.labels : Ty → List ByteArray | .mk _ ls _ => ls
def Ty.args : Ty → List Ty | .mk _ _ ts => ts

theorem Ty.ind {P : Ty → Prop} (h : ∀ k ls (ts : List Ty), (∀ i, (hi : i < ts.length) → P ts[i]) → P (.mk k ls ts)) (t : Ty) : P t :=
  Ty.rec (motive_1 := P) (motive_2 := fun ts => ∀ i, (hi : i < ts.length) → P ts[i]) h (fun i hi => absurd hi (Nat.not_lt_zero i))
    (fun a r ha hr i hi => match i, hi with | 0, _ => ha | i + 1, hi => hr i (Nat.lt_of_succ_lt_succ hi)) t

theorem StrsAt.up' {w w' : World} {A : Option Addr} {ss : List ByteArray} (h : StrsAt w w.heap.size A ss) (hb : Below w.heap.size w w') : StrsAt w' w'.heap.size A ss := (h.below hb).more hb.size

/-- Part j of an aggregate. -/
def partAt (v : Value) (j : Nat) : Option Value := match v with | .agg cs => cs[j]? | _ => none

/-- The slice of address A holds m elements of sz cells, the aggregates vs, below block B. -/
def ElemsAt (sz : Nat) (w : World) (B : Nat) (A : Option Addr) (m : Nat) (vs : Nat → Value) : Prop :=
  ∀ i, i < m → ∃ b off, A = some ⟨b, off, none⟩ ∧ b < B ∧ ∀ j, j < sz → w.cell? ⟨b, off + i * sz + j, none⟩ = partAt (vs i) j
theorem ElemsAt.keep {sz : Nat} {w w' : World} {B m : Nat} {A : Option Addr} {vs : Nat → Value} (h : ElemsAt sz w B A m vs) (hk : ∀ p : Addr, p.block < B → w'.cell? p = w.cell? p) : ElemsAt sz w' B A m vs := fun i hi => by
  obtain ⟨b, off, h1, h2, h3⟩ := h i hi
  exact ⟨b, off, h1, h2, fun j hj => (hk _ h2).trans (h3 j hj)⟩
theorem ElemsAt.more {sz : Nat} {w : World} {B B' m : Nat} {A : Option Addr} {vs : Nat → Value} (h : ElemsAt sz w B A m vs) (hB : B ≤ B') : ElemsAt sz w B' A m vs := fun i hi => by
  obtain ⟨b, off, h1, h2, h3⟩ := h i hi
  exact ⟨b, off, h1, by omega, h3⟩

/-- The value reads as the tree; all that is read lies below block B. -/
inductive TyAt (w : World) (B : Nat) : Value → Ty → Prop where
  | mk {k : Int} {ls : List ByteArray} {ts : List Ty} {L A : Option Addr} {lc ac : Nat} (vs : Nat → Value) (hn : ls.length ≤ maxLen) (hz : ∀ i, (h : i < ls.length) → ls[i].size ≤ maxLen) (hm : ts.length ≤ maxLen) (hls : StrsAt w B L ls) (hes : ElemsAt 3 w B A ts.length vs)
      (hks : ∀ i, (hi : i < ts.length) → TyAt w B (vs i) ts[i]) : TyAt w B (.agg #[.int .i64 k, .slice L ls.length lc, .slice A ts.length ac]) (.mk k ls ts)

theorem TyAt.keep {w w' : World} {B : Nat} {v : Value} {t : Ty} (h : TyAt w B v t) (hk : ∀ p : Addr, p.block < B → w'.cell? p = w.cell? p) : TyAt w' B v t := by
  induction h with
  | mk vs hn hz hm hls hes _ ih => exact .mk vs hn hz hm (hls.keep hk) (hes.keep hk) ih
theorem TyAt.more {w : World} {B B' : Nat} {v : Value} {t : Ty} (h : TyAt w B v t) (hB : B ≤ B') : TyAt w B' v t := by
  induction h with
  | mk vs hn hz hm hls hes _ ih => exact .mk vs hn hz hm (hls.more hB) (hes.more hB) ih
theorem TyAt.lift {w w' : World} {B : Nat} {v : Value} {t : Ty} (h : TyAt w B v t) (hb : Below B w w') : TyAt w' B v t := h.keep fun _ hp => hb.cell hp
theorem TyAt.up {w w' : World} {v : Value} {t : Ty} (h : TyAt w w.heap.size v t) (hb : Below w.heap.size w w') : TyAt w' w'.heap.size v t := (h.lift hb).more hb.size

/-- The slice (A, length, c) reads as the list of trees. -/
def TysAt (w : World) (B : Nat) (A : Option Addr) (ts : List Ty) : Prop := ts.length ≤ maxLen ∧ ∃ vs : Nat → Value, ElemsAt 3 w B A ts.length vs ∧ ∀ i, (hi : i < ts.length) → TyAt w B (vs i) ts[i]
theorem TysAt.keep {w w' : World} {B : Nat} {A : Option Addr} {ts : List Ty} (h : TysAt w B A ts) (hk : ∀ p : Addr, p.block < B → w'.cell? p = w.cell? p) : TysAt w' B A ts := by
  obtain ⟨h0, vs, h1, h2⟩ := h
  exact ⟨h0, vs, h1.keep hk, fun i hi => (h2 i hi).keep hk⟩
theorem TysAt.more {w : World} {B B' : Nat} {A : Option Addr} {ts : List Ty} (h : TysAt w B A ts) (hB : B ≤ B') : TysAt w B' A ts := by
  obtain ⟨h0, vs, h1, h2⟩ := h
  exact ⟨h0, vs, h1.more hB, fun i hi => (h2 i hi).more hB⟩
theorem TysAt.below {w w' : World} {B : Nat} {A : Option Addr} {ts : List Ty} (h : TysAt w B A ts) (hb : Below B w w') : TysAt w' B A ts := h.keep fun _ hp => hb.cell hp
theorem TysAt.up {w w' : World} {A : Option Addr} {ts : List Ty} (h : TysAt w w.heap.size A ts) (hb : Below w.heap.size w w') : TysAt w' w'.heap.size A ts := (h.below hb).more hb.size

/-- What a value that reads as a tree looks like. -/
theorem TyAt.open {w : World} {B : Nat} {v : Value} {t : Ty} (h : TyAt w B v t) : ∃ L lc A ac, v = .agg #[.int .i64 t.kind, .slice L t.labels.length lc, .slice A t.args.length ac] ∧ t.labels.length ≤ maxLen ∧ (∀ i, (h : i < t.labels.length) → t.labels[i].size ≤ maxLen) ∧ StrsAt w B L t.labels ∧ TysAt w B A t.args := by
  cases h with
  | mk vs hn hz hm hls hes hks => exact ⟨_, _, _, _, rfl, hn, hz, hls, hm, vs, hes, hks⟩
theorem TyAt.of {w : World} {B lc ac : Nat} {L A : Option Addr} {t : Ty} (hn : t.labels.length ≤ maxLen) (hz : ∀ i, (h : i < t.labels.length) → t.labels[i].size ≤ maxLen) (hl : StrsAt w B L t.labels) (ha : TysAt w B A t.args) : TyAt w B (.agg #[.int .i64 t.kind, .slice L t.labels.length lc, .slice A t.args.length ac]) t := by
  obtain ⟨h0, vs, h1, h2⟩ := ha
  cases t
  exact .mk vs hn hz h0 hl h1 h2

/-- Element i of a list of trees: its three cells. -/
theorem TysAt.elem {w : World} {B : Nat} {A : Option Addr} {ts : List Ty} (h : TysAt w B A ts) (i : Nat) (hi : i < ts.length) :
    ∃ b off L lc A' ac, A = some ⟨b, off, none⟩ ∧ b < B ∧ w.cell? ⟨b, off + i * 3, none⟩ = some (.int .i64 ts[i].kind) ∧ w.cell? ⟨b, off + i * 3 + 1, none⟩ = some (.slice L ts[i].labels.length lc) ∧
      w.cell? ⟨b, off + i * 3 + 2, none⟩ = some (.slice A' ts[i].args.length ac) ∧ ts[i].labels.length ≤ maxLen ∧ (∀ j, (h : j < ts[i].labels.length) → ts[i].labels[j].size ≤ maxLen) ∧ StrsAt w B L ts[i].labels ∧ TysAt w B A' ts[i].args ∧ TyAt w B (.agg #[.int .i64 ts[i].kind, .slice L ts[i].labels.length lc, .slice A' ts[i].args.length ac]) ts[i] := by
  obtain ⟨h0, vs, h1, h2⟩ := h
  obtain ⟨b, off, e, hb, hc⟩ := h1 i hi
  have ht := h2 i hi
  obtain ⟨L, lc, A', ac, hv, hn, hz, hl, ha⟩ := ht.open
  rw [hv] at hc ht
  exact ⟨b, off, L, lc, A', ac, e, hb, hc 0 (by omega), hc 1 (by omega), hc 2 (by omega), hn, hz, hl, ha, ht⟩

mutual
/-- What the law counts of a tree: its labels, their letters, its parts. -/
def szTy : Ty → Nat | .mk _ ls ts => ls.length + sumSizes ls + szTys ts
def szTys : List Ty → Nat | [] => 0 | t :: r => 1 + szTy t + szTys r
end
theorem szTys_append : ∀ (a b : List Ty), szTys (a ++ b) = szTys a + szTys b
  | [], b => by simp [szTys]
  | t :: a, b => by
    rw [List.cons_append, szTys, szTys, szTys_append a b]
    omega
theorem szTys_take (ts : List Ty) (k : Nat) (h : k < ts.length) : szTys (ts.take (k + 1)) = szTys (ts.take k) + 1 + szTy ts[k] := by
  rw [List.take_succ_eq_append_getElem h, szTys_append, szTys, szTys]
  omega
theorem szTys_len : ∀ (ts : List Ty), ts.length ≤ szTys ts
  | [] => Nat.le_refl _
  | t :: r => by
    have := szTys_len r
    rw [szTys, List.length_cons]
    omega
theorem szTys_le (ts : List Ty) (k : Nat) : szTys (ts.take k) + (ts.length - k) ≤ szTys ts := by
  have h := szTys_append (ts.take k) (ts.drop k)
  have h2 := szTys_len (ts.drop k)
  rw [List.take_append_drop] at h
  rw [List.length_drop] at h2
  omega
theorem szTy_part (ts : List Ty) (k : Nat) (h : k < ts.length) : szTy ts[k] + 1 ≤ szTys ts := by
  have h1 := szTys_take ts k h
  have h2 := szTys_le ts (k + 1)
  omega
theorem szTy_eq (t : Ty) : szTy t = t.labels.length + sumSizes t.labels + szTys t.args := by
  cases t
  rw [szTy]
  rfl

end Go.Proofs.YtlmbnefoobameaaGreatDoor

namespace Go.Proofs.YtlmbnefoobameaaGreatDoor
open Go.RowKit

/-- Block g is a row whose first cells are m elements of sz cells, the aggregates vs. -/
def ElemRow (sz : Nat) (t : TypeId) (w : World) (g m : Nat) (vs : Nat → Value) : Prop := ∃ cs : Array Value, Whole1 w g t cs ∧ ∀ i, i < m → ∀ j, j < sz → (partAt (vs i) j).isSome = true ∧ cs[i * sz + j]? = partAt (vs i) j
theorem ElemRow.lt {sz : Nat} {t : TypeId} {w : World} {g m : Nat} {vs : Nat → Value} (h : ElemRow sz t w g m vs) : g < w.heap.size := by
  obtain ⟨cs, h1, _⟩ := h
  exact h1.lt
theorem ElemRow.cell {sz : Nat} {t : TypeId} {w : World} {g m : Nat} {vs : Nat → Value} (h : ElemRow sz t w g m vs) (i j : Nat) (hi : i < m) (hj : j < sz) : w.cell? ⟨g, i * sz + j, none⟩ = partAt (vs i) j := by
  obtain ⟨cs, h1, h2⟩ := h
  rw [h1.cell, (h2 i hi j hj).2]
theorem ElemRow.free {sz : Nat} {t : TypeId} {w : World} {g m : Nat} {vs : Nat → Value} (h : ElemRow sz t w g m vs) (i : Nat) : w.frozen? ⟨g, i, none⟩ = false := by
  obtain ⟨cs, h1, _⟩ := h
  exact h1.free i
theorem ElemRow.keep {sz : Nat} {t : TypeId} {w w' : World} {g m : Nat} {vs : Nat → Value} (h : ElemRow sz t w g m vs) (hk : w'.heap[g]? = w.heap[g]?) : ElemRow sz t w' g m vs := by
  obtain ⟨cs, h1, h2⟩ := h
  exact ⟨cs, hk.trans h1, h2⟩
theorem ElemRow.at {sz : Nat} {t : TypeId} {w : World} {g m : Nat} {vs : Nat → Value} (h : ElemRow sz t w g m vs) (B : Nat) (hB : g < B) : ElemsAt sz w B (some ⟨g, 0, none⟩) m vs := fun i hi => ⟨g, 0, rfl, hB, fun j hj => by rw [Nat.zero_add]; exact h.cell i j hi hj⟩
theorem RowStrs.same {w w' : World} {g : Nat} {ss : List ByteArray} (h : RowStrs w g ss) (hk : w'.heap[g]? = w.heap[g]?) : RowStrs w' g ss := by
  obtain ⟨cs, h1, h2⟩ := h
  exact ⟨cs, hk.trans h1, h2⟩

/-- The blocks from lo on, below hi. -/
def Span (lo hi b : Nat) : Prop := lo ≤ b ∧ b < hi

end Go.Proofs.YtlmbnefoobameaaGreatDoor
end

section
namespace Go.Proofs.YtlmbnefoobameaaGreatDoor
open Go.RowKit

section
variable {P : Program} {K : Type}

/-- What the laws on a map need of its keys: they are those of enc; two that are ok are told apart in the worlds of Wd. -/
structure KeyKit (P : Program) (kt : TypeId) (enc : K → Value) (Wd : World → Prop) (Ok : K → Prop) : Prop where
  find : ∀ (w : World) (k : K) (es : List MapEntry), (Instr.findKey kt (enc k) es).run P w = (Instr.findAsking kt (enc k) es 0).run P w
  check : ∀ (w : World) (em : Bool) (k : K), (Instr.checkKey em 10000 kt (enc k)).run P w = .ok () w
  same : ∀ (w : World) (k : K), (Op.equal kt (enc k) (enc k)).run P w = .ok true w
  other : ∀ (w : World) (k k' : K), Wd w → Ok k → Ok k' → k ≠ k' → (Op.equal kt (enc k) (enc k')).run P w = .ok false w
  stays : ∀ (w : World) (k : K), (Instr.keyThatStays (enc k) (enc k)).run P w = .ok (enc k) w
  inj : ∀ k k' : K, enc k = enc k' → k = k'

variable {kt : TypeId} {enc : K → Value} {Wd : World → Prop} {Ok : K → Prop}

theorem KeyKit.ask (KK : KeyKit P kt enc Wd Ok) (w : World) (hw : Wd w) (k : K) (hk : Ok k) : ∀ (es : List MapEntry) (i : Nat), (∀ e ∈ es, ∃ k', Ok k' ∧ e.key = enc k') →
    ((Instr.findAsking kt (enc k) es i).run P w = .ok none w ∧ ∀ e ∈ es, e.key ≠ enc k) ∨ ∃ j e, (Instr.findAsking kt (enc k) es i).run P w = .ok (some (i + j, e.val)) w ∧ es[j]? = some e ∧ e.key = enc k
  | [], i, _ => .inl ⟨by simp [Instr.findAsking], by simp⟩
  | e :: es, i, hall => by
    obtain ⟨k', hk', he⟩ := hall e (by simp)
    by_cases hkk : k = k'
    · subst hkk
      exact .inr ⟨0, e, by simp [Instr.findAsking, he, KK.same], rfl, he⟩
    · have ho := KK.other w k k' hw hk hk' hkk
      rcases KK.ask w hw k hk es (i + 1) (fun y hy => hall y (by simp [hy])) with ⟨h1, h2⟩ | ⟨j, e', h1, h2, h3⟩
      · refine .inl ⟨by simp [Instr.findAsking, he, ho, h1], fun y hy => ?_⟩
        rcases List.mem_cons.1 hy with rfl | hy
        · rw [he]
          exact fun h => hkk (KK.inj _ _ h.symm)
        · exact h2 y hy
      · exact .inr ⟨j + 1, e', by simp [Instr.findAsking, he, ho, h1, Nat.add_assoc, Nat.add_comm 1 j], by simpa using h2, h3⟩

/-- The map in block b has at each key what F says. -/
def Known (enc : K → Value) (Ok : K → Prop) (w : World) (b : Nat) (F : K → Option Value) : Prop :=
  ∃ es clock, w.heap[b]? = some (.map es clock) ∧ (∀ e ∈ es.toList, ∃ k, Ok k ∧ e.key = enc k ∧ F k = some e.val) ∧ (∀ k v, F k = some v → ∃ e ∈ es.toList, e.key = enc k) ∧ es.toList.Pairwise (fun x y => x.key ≠ y.key)

theorem Known.keep {w w' : World} {b : Nat} {F : K → Option Value} (h : Known enc Ok w b F) (hk : w'.heap[b]? = w.heap[b]?) : Known enc Ok w' b F := by
  obtain ⟨es, clock, h1, h2⟩ := h
  exact ⟨es, clock, hk.trans h1, h2⟩
theorem Known.lt {w : World} {b : Nat} {F : K → Option Value} (h : Known enc Ok w b F) : b < w.heap.size := by
  obtain ⟨es, clock, h1, _⟩ := h
  exact (Array.getElem?_eq_some_iff.1 h1).1
theorem Known.new (w : World) : Known enc Ok (w.alloc (.map #[] 0)) w.heap.size (fun _ => none) :=
  ⟨#[], 0, heap_alloc_new w _, fun e he => absurd he (by simp), fun k v h => (by cases h), List.Pairwise.nil⟩
theorem Known.nocell {w : World} {b : Nat} {F : K → Option Value} (h : Known enc Ok w b F) (p : Addr) (hp : p.block = b) : w.cell? p = none := by
  obtain ⟨es, clock, h1, _⟩ := h
  simp [World.cell?, hp, h1]

theorem Known.look (KK : KeyKit P kt enc Wd Ok) {T et : TypeId} (ht : P.underlying T = some (.map kt et)) {w : World} {z : Value} (hz : (zeroValue et).run P w = .ok z w) {b : Nat} {F : K → Option Value} (h : Known enc Ok w b F) (hw : Wd w) {k : K} (hk : Ok k) :
    (Instr.lookup T (.map (some b)) (enc k) true).run P w = .ok (.tuple #[(F k).getD z, .bool (F k).isSome]) w := by
  obtain ⟨es, clock, h1, h2, h3, h4⟩ := h
  rcases KK.ask w hw k hk es.toList 0 (fun e he => (h2 e he).imp fun k' hk' => ⟨hk'.1, hk'.2.1⟩) with ⟨r1, r2⟩ | ⟨j, e, r1, r2, r3⟩
  · have hF : F k = none := by
      cases hF : F k with
      | none => rfl
      | some v =>
        obtain ⟨e, he, hek⟩ := h3 k v hF
        exact absurd hek (r2 e he)
    simp [Instr.lookup, run_underlying ht, MapKept.run_getObj_map h1, KK.check, KK.find, r1, Result.andThen, hz, hF]
  · have hm := List.mem_of_getElem? r2
    obtain ⟨k', _, hk2, hF⟩ := h2 e hm
    have : k' = k := KK.inj _ _ (hk2.symm.trans r3)
    subst this
    simp [Instr.lookup, run_underlying ht, MapKept.run_getObj_map h1, KK.check, KK.find, r1, Result.andThen, hF]

/-- Without ok. -/
theorem Known.look1 (KK : KeyKit P kt enc Wd Ok) {T et : TypeId} (ht : P.underlying T = some (.map kt et)) {w : World} {z : Value} (hz : (zeroValue et).run P w = .ok z w) {b : Nat} {F : K → Option Value} (h : Known enc Ok w b F) (hw : Wd w) {k : K} (hk : Ok k) :
    (Instr.lookup T (.map (some b)) (enc k) false).run P w = .ok ((F k).getD z) w := by
  obtain ⟨es, clock, h1, h2, h3, h4⟩ := h
  rcases KK.ask w hw k hk es.toList 0 (fun e he => (h2 e he).imp fun k' hk' => ⟨hk'.1, hk'.2.1⟩) with ⟨r1, r2⟩ | ⟨j, e, r1, r2, r3⟩
  · have hF : F k = none := by
      cases hF : F k with
      | none => rfl
      | some v =>
        obtain ⟨e, he, hek⟩ := h3 k v hF
        exact absurd hek (r2 e he)
    simp [Instr.lookup, run_underlying ht, MapKept.run_getObj_map h1, KK.check, KK.find, r1, Result.andThen, hz, hF]
  · have hm := List.mem_of_getElem? r2
    obtain ⟨k', _, hk2, hF⟩ := h2 e hm
    have : k' = k := KK.inj _ _ (hk2.symm.trans r3)
    subst this
    simp [Instr.lookup, run_underlying ht, MapKept.run_getObj_map h1, KK.check, KK.find, r1, Result.andThen, hF]

open Classical in
noncomputable def put (F : K → Option Value) (k : K) (v : Value) : K → Option Value := fun x => if x = k then some v else F x
theorem put_same (F : K → Option Value) (k : K) (v : Value) : put F k v k = some v := by simp [put]
theorem put_other (F : K → Option Value) (k x : K) (v : Value) (h : x ≠ k) : put F k v x = F x := by simp [put, h]

/-- A store: only the map's block turns, and it stays a map. -/
def MapOnly (b : Nat) (w w' : World) : Prop := w.grownBy w' (some b) ∧ w'.heap.size = w.heap.size

theorem Known.store (KK : KeyKit P kt enc Wd Ok) {T et : TypeId} (ht : P.underlying T = some (.map kt et)) {w : World} {b : Nat} {F : K → Option Value} (h : Known enc Ok w b F) (hw : Wd w) {k : K} (hk : Ok k) (v : Value) :
    ∃ w', (Instr.mapUpdate T (.map (some b)) (enc k) v).run P w = .ok () w' ∧ Known enc Ok w' b (put F k v) ∧ MapOnly b w w' := by
  obtain ⟨es, clock, h1, h2, h3, h4⟩ := h
  have hblk : ∀ o, MapOnly b w (Go.ChangeMaps.setBlock w b o) := fun o => ⟨⟨rfl, rfl, rfl, by simp [Go.ChangeMaps.setBlock], fun i _ hi => Go.ChangeMaps.heap_setBlock_other h1 _ (fun e => hi (by rw [e]))⟩, by simp [Go.ChangeMaps.setBlock]⟩
  rcases KK.ask w hw k hk es.toList 0 (fun e he => (h2 e he).imp fun k' hk' => ⟨hk'.1, hk'.2.1⟩) with ⟨r1, r2⟩ | ⟨j, e, r1, r2, r3⟩
  · refine ⟨Go.ChangeMaps.setBlock w b (.map (es.push { key := enc k, val := v, born := clock }) (clock + 1)), by simp [Instr.mapUpdate, run_underlying ht, MapKept.run_getObj_map h1, KK.check, KK.find, r1, Result.andThen, MapKept.run_setObj_map _ h1, Go.ChangeMaps.setBlock], ⟨_, _, Go.ChangeMaps.heap_setBlock_same h1 _, fun x hx => ?_, fun x u hx => ?_, ?_⟩, hblk _⟩
    · simp only [Array.toList_push, List.mem_append, List.mem_singleton] at hx
      rcases hx with hx | rfl
      · obtain ⟨k', a1, a2, a3⟩ := h2 x hx
        exact ⟨k', a1, a2, by rw [put_other _ _ _ _ (fun e => r2 x hx (by rw [a2, e])), a3]⟩
      · exact ⟨k, hk, rfl, put_same _ _ _⟩
    · by_cases hxk : x = k
      · subst hxk
        exact ⟨_, by simp only [Array.toList_push, List.mem_append, List.mem_singleton]; exact .inr rfl, rfl⟩
      · rw [put_other _ _ _ _ hxk] at hx
        obtain ⟨y, hy, hyk⟩ := h3 x u hx
        exact ⟨y, by simp only [Array.toList_push, List.mem_append]; exact .inl hy, hyk⟩
    · simp only [Array.toList_push]
      refine List.pairwise_append.2 ⟨h4, by simp, fun x hx y hy => ?_⟩
      simp only [List.mem_singleton] at hy
      subst hy
      exact r2 x hx
  · have hj : es[j]? = some e := by simpa using r2
    have hjl : j < es.size := (Array.getElem?_eq_some_iff.1 hj).1
    have hmod : ∀ x, x ∈ (es.modify j fun e => { e with key := enc k, val := v }).toList → (x.key = enc k ∧ x.val = v) ∨ (x ∈ es.toList ∧ x.key ≠ enc k) := by
      intro x hx
      obtain ⟨i, hi, hxi⟩ := List.getElem_of_mem hx
      have hi' : i < es.size := by simpa using hi
      simp only [Array.getElem_toList, Array.getElem_modify] at hxi
      by_cases hij : j = i
      · rw [if_pos hij] at hxi
        subst hxi
        exact .inl ⟨rfl, rfl⟩
      · rw [if_neg hij] at hxi
        subst hxi
        refine .inr ⟨by simp, fun hk' => ?_⟩
        have he : es[j] = e := by
          have := (Array.getElem?_eq_some_iff.1 hj).2
          exact this
        have hne := List.pairwise_iff_getElem.1 h4
        rcases Nat.lt_or_gt_of_ne hij with hlt | hlt
        · exact hne j i (by simpa using hjl) (by simpa using hi') hlt (by simp only [Array.getElem_toList]; rw [he, r3, hk'])
        · exact hne i j (by simpa using hi') (by simpa using hjl) hlt (by simp only [Array.getElem_toList]; rw [he, r3, hk'])
    have hkeys : (es.modify j fun e => { e with key := enc k, val := v }).toList.map (·.key) = es.toList.map (·.key) := MapKept.modify_keys j _ (fun e' he' => by rw [hj] at he'; cases he'; exact r3.symm)
    refine ⟨Go.ChangeMaps.setBlock w b (.map (es.modify j fun e => { e with key := enc k, val := v }) clock), by simp [Instr.mapUpdate, run_underlying ht, MapKept.run_getObj_map h1, KK.check, KK.find, r1, Result.andThen, hj, r3, KK.stays, MapKept.run_setObj_map _ h1, Go.ChangeMaps.setBlock], ⟨_, _, Go.ChangeMaps.heap_setBlock_same h1 _, fun x hx => ?_, fun x u hx => ?_, ?_⟩, hblk _⟩
    · rcases hmod x hx with ⟨a1, a2⟩ | ⟨a1, a2⟩
      · exact ⟨k, hk, a1, by rw [put_same, a2]⟩
      · obtain ⟨k', b1, b2, b3⟩ := h2 x a1
        exact ⟨k', b1, b2, by rw [put_other _ _ _ _ (fun e => a2 (by rw [b2, e])), b3]⟩
    · have : enc x ∈ (es.modify j fun e => { e with key := enc k, val := v }).toList.map (·.key) := by
        rw [hkeys]
        by_cases hxk : x = k
        · subst hxk
          exact List.mem_map.2 ⟨e, List.mem_of_getElem? r2, r3⟩
        · rw [put_other _ _ _ _ hxk] at hx
          obtain ⟨y, hy, hyk⟩ := h3 x u hx
          exact List.mem_map.2 ⟨y, hy, hyk⟩
      obtain ⟨y, hy, hyk⟩ := List.mem_map.1 this
      exact ⟨y, hy, hyk⟩
    · have h4' : (es.toList.map (·.key)).Pairwise (· ≠ ·) := List.pairwise_map.2 h4
      rw [← hkeys] at h4'
      exact List.pairwise_map.1 h4'

end

end Go.Proofs.YtlmbnefoobameaaGreatDoor

namespace Go.Proofs.YtlmbnefoobameaaGreatDoor
open Go.RowKit

abbrev Pl := Option (Nat × Nat)
def plVal : Pl → Value
  | none => .agg #[.pointer none, .int .i64 0]
  | some (g, n) => .agg #[.pointer (some ⟨g, 0, none⟩), .int .i64 n]
def PlWd (w1 : World) (B mb : Nat) (w : World) : Prop := ∀ g, g < B → g ≠ mb → w.heap[g]? = w1.heap[g]?
def PlOk (w1 : World) (B mb : Nat) (k : Pl) : Prop := ∀ g n, k = some (g, n) → g < B ∧ g ≠ mb ∧ ∃ cs t, w1.heap[g]? = some (.cells cs t (0, 0))

theorem run_isAgg_plain {P : Program} (w : World) (t : TypeId) (d : TypeDesc) (h : P.underlying t = some d) (hd : (match d with | .struct _ | .array _ _ => false | _ => true) = true) : (isAgg t).run P w = .ok false w := by
  cases d <;> simp_all [isAgg, run_underlying h, Result.andThen]

theorem run_pl_part1 (w : World) (a b : Value) : (part 3 #[a, b] 1).run Tryz.prog w = .ok b w := by
  simp [part, run_isAgg_plain w 3 _ Tryz.underlying3 rfl, Result.andThen]

theorem plVal_inj (k k' : Pl) (h : plVal k = plVal k') : k = k' := by
  match k, k', h with
  | none, none, _ => rfl
  | none, some (g, n), h => simp [plVal] at h
  | some (g, n), none, h => simp [plVal] at h
  | some (g, n), some (g', n'), h =>
    simp [plVal] at h
    obtain ⟨rfl, h2⟩ := h
    rw [show n = n' by omega]

theorem findKey_wide {P : Program} {kt : TypeId} {d : TypeDesc} (hd : P.underlying kt = some d) (hw : (match d with | .struct _ | .array _ _ => true | _ => false) = true) (w : World) (x : Value) (es : List MapEntry) : (Instr.findKey kt x es).run P w = (Instr.findAsking kt x es 0).run P w := by
  cases es with
  | nil => simp [Instr.findKey, run_underlying hd, Result.andThen, Instr.findNow, Instr.findAsking]
  | cons e r =>
    have : Instr.sameNow d x e.key = none := by
      cases d <;> simp_all [Instr.sameNow]
    simp [Instr.findKey, run_underlying hd, Result.andThen, Instr.findNow, this]

theorem stays_agg {P : Program} (w : World) (cs : Array Value) (h : ∀ v ∈ cs.toList, Instr.sameBits 9999 v v = true) : (Instr.keyThatStays (.agg cs) (.agg cs)).run P w = .ok (.agg cs) w := by
  have hs : Instr.sameBits 10000 (.agg cs) (.agg cs) = true := by
    show Instr.sameBits (9999 + 1) (.agg cs) (.agg cs) = true
    simp only [Instr.sameBits, beq_self_eq_true, Bool.true_and, List.all_eq_true]
    intro p hp
    obtain ⟨i, hi, e⟩ := List.getElem_of_mem hp
    rw [List.getElem_zip] at e
    rw [← e]
    exact h _ (List.getElem_mem _)
  simp [Instr.keyThatStays, hs]

end Go.Proofs.YtlmbnefoobameaaGreatDoor
end

section
namespace Go.Proofs.YtlmbnefoobameaaGreatDoor
open Go.RowKit

theorem infoString : (Tryz.prog.info? 9).map (fun i => (i.zero, i.size, i.bytes)) = some (some (.string ⟨#[]⟩), 1, 16) := by kernel_rfl

/-- A new slice of the strings ss is handed back. -/
def NewStrs (w : World) (ss : List ByteArray) (e : Ending) (w' : World) : Prop :=
  ∃ g, e = .returned (.slice (some ⟨g, 0, none⟩) ss.length ss.length) ∧ w.heap.size ≤ g ∧ Whole1 w' g 9 (strVals ss).toArray ∧ Below w.heap.size w w'

end Go.Proofs.YtlmbnefoobameaaGreatDoor

namespace Go.Proofs.YtlmbnefoobameaaGreatDoor
open Go.RowKit

/-- True is handed back; the world only drew. -/
def TrueDrew (w : World) (e : Ending) (w' : World) : Prop := e = .returned (.bool true) ∧ ∃ n, w' = w.drewN n

end Go.Proofs.YtlmbnefoobameaaGreatDoor

namespace Go.Proofs.YtlmbnefoobameaaGreatDoor
open Go.RowKit

/-- The bytes of the first k strings with sep between. -/
def joinTo (ss : List ByteArray) (sep : ByteArray) : Nat → List UInt8
  | 0 => []
  | k + 1 => joinTo ss sep k ++ (if 0 < k then sep.data.toList else []) ++ (ss.getD k ⟨#[]⟩).data.toList

theorem joinTo_len (ss : List ByteArray) (sep : ByteArray) (k : Nat) (h : k ≤ ss.length) : (joinTo ss sep k).length ≤ sumSizes (ss.take k) + k * sep.size := by
  induction k with
  | zero => simp [joinTo]
  | succ k ih =>
    have h1 := ih (by omega)
    have h2 := sumSizes_take_succ ss k (by omega)
    have h3 : (ss.getD k ⟨#[]⟩).data.toList.length = ss[k].size := by simp [show k < ss.length by omega]
    have h4 : sep.data.toList.length = sep.size := by simp
    rw [joinTo, List.length_append, List.length_append, h2, h3, Nat.add_mul]
    split
    · omega
    · simp; omega

/-- Bytes as cells. -/
def cellsOf (l : List UInt8) : List Value := l.map fun b => Value.int .u8 (b.toNat : Int)
theorem cellsOf_append (a b : List UInt8) : cellsOf (a ++ b) = cellsOf a ++ cellsOf b := by simp [cellsOf]
theorem cellsOf_str (s : ByteArray) : Lib.strCells s = cellsOf s.data.toList := rfl
theorem cellsOf_len (l : List UInt8) : (cellsOf l).length = l.length := by simp [cellsOf]
theorem size_list (s : ByteArray) : s.data.toList.length = s.size := by simp

/-- string(b) of an owned row. -/
theorem run_convert_owned {P : Program} {w : World} {base n : Nat} {src dst e : TypeId} {v : Value} {l : List UInt8} (hs : P.underlying src = some (.slice e)) (he : P.underlying e = some (.int .u8)) (hd : P.underlying dst = some .string)
    (h : w.ownsRow base e 1 v n (cellsOf l)) : (convert src dst v).run P w = .ok (.string ⟨l.toArray⟩) w := by
  have hl : l.length = n := by simpa [cellsOf_len] using h.1
  rcases h.2 with ⟨rfl, h0⟩ | ⟨g, cap, cur, rfl, _⟩
  · have : l = [] := List.eq_nil_of_length_eq_zero (by omega)
    subst this
    rw [run_convert_bytes_nil w src e hs he 0 0 dst hd]
    rfl
  · rw [← hl]
    refine run_convert_bytes_back w src dst e ⟨g, 0, none⟩ cap l hs he hd fun j hj => ?_
    exact h.cells (g := g) rfl j _ (by simp [cellsOf, hj])

end Go.Proofs.YtlmbnefoobameaaGreatDoor

namespace Go.Proofs.YtlmbnefoobameaaGreatDoor
open Go.RowKit

def szStrs (left : Int) (ss : List ByteArray) : Int := if left - ss.length - sumSizes ss < 0 then -1 else left - ss.length - sumSizes ss
theorem ret_i64 {a b : Int} (h : a = b) : Ending.returned (.int .i64 a) = .returned (.int .i64 b) := by rw [h]

end Go.Proofs.YtlmbnefoobameaaGreatDoor
end

section
namespace Go.Proofs.YtlmbnefoobameaaGreatDoor
open Go.RowKit

/-- What is left of n. -/
def leftOf (left : Int) (n : Nat) : Int := if left - n < 0 then -1 else left - n
theorem leftOf_cases (left : Int) (n : Nat) : leftOf left n = -1 ∨ 0 ≤ leftOf left n := by unfold leftOf; split <;> omega
/-- A number is handed back; what was there stands. -/
def IntBelow (x : Int) (w : World) (e : Ending) (w' : World) : Prop := e = .returned (.int .i64 x) ∧ Below w.heap.size w w'

end Go.Proofs.YtlmbnefoobameaaGreatDoor
end

section
namespace Go.Proofs.YtlmbnefoobameaaGreatDoor
open Go.RowKit

theorem bcell {W w1 : World} (hb : Below W.heap.size W w1) : (∀ b o, b < W.heap.size → w1.cell? ⟨b, o, none⟩ = W.cell? ⟨b, o, none⟩) ∧ (∀ b o, b < W.heap.size → w1.frozen? ⟨b, o, none⟩ = W.frozen? ⟨b, o, none⟩) :=
  ⟨fun b o h => hb.cell (p := ⟨b, o, none⟩) h, fun b o h => hb.frozen (p := ⟨b, o, none⟩) h⟩

theorem boxes3 (w : World) (t1 t2 t3 : TypeId) (a b c : Array Value) :
    Below w.heap.size w (((w.alloc (.cells a t1)).alloc (.cells b t2)).alloc (.cells c t3)) ∧ Whole1 (((w.alloc (.cells a t1)).alloc (.cells b t2)).alloc (.cells c t3)) w.heap.size t1 a ∧
    Whole1 (((w.alloc (.cells a t1)).alloc (.cells b t2)).alloc (.cells c t3)) (w.heap.size + 1) t2 b ∧ Whole1 (((w.alloc (.cells a t1)).alloc (.cells b t2)).alloc (.cells c t3)) (w.heap.size + 1 + 1) t3 c ∧
    (((w.alloc (.cells a t1)).alloc (.cells b t2)).alloc (.cells c t3)).heap.size = w.heap.size + 3 := by
  refine ⟨(((Below.refl _ _).alloc (Nat.le_refl _) _).alloc (by simp) _).alloc (by simp; omega) _, ?_, ?_, ?_, by simp⟩
  · exact Whole1.below (B := w.heap.size + 1) (Whole1.new _ _ _) (((Below.refl _ _).alloc (by simp) _).alloc (by simp) _) (by omega)
  · have h := Whole1.new (w.alloc (.cells a t1)) t2 b
    exact Whole1.below (B := w.heap.size + 2) (by simpa using h) ((Below.refl _ _).alloc (by simp) _) (by omega)
  · have h := Whole1.new ((w.alloc (.cells a t1)).alloc (.cells b t2)) t3 c
    simpa using h

/-- make of a row of elements of sz cells. -/
theorem run_make_elems {P : Program} {T E : TypeId} {z : Value} {sz by8 : Nat} (ht : P.underlying T = some (.slice E)) (hi : (P.info? E).map (fun i => (i.zero, i.size, i.bytes)) = some (some z, sz, by8)) (n : Nat) (hb : (by8 : Int) * n ≤ 281474976710656) (hn : n ≤ 1048576) (w : World) :
    ∃ cs : Array Value, cs.size = n * sz ∧ (Instr.makeSlice T (.int .i64 (n : Int)) (.int .i64 (n : Int))).run P w = .ok (.slice (some ⟨w.heap.size, 0, none⟩) n n) (w.alloc (.cells cs E)) := by
  obtain ⟨i, h1, h2, h3, h4⟩ := info_parts hi
  have hr := run_make (P := P) w T E i _ ht h1 h2 .i64 .i64 n n (by omega) (by omega) (by rw [h4]; exact hb) (by omega)
  simp only [Int.toNat_natCast] at hr
  refine ⟨_, ?_, hr⟩
  rw [size_madeCells, h3]

theorem boxes1 (w : World) (t1 : TypeId) (a : Array Value) : Below w.heap.size w (w.alloc (.cells a t1)) ∧ Whole1 (w.alloc (.cells a t1)) w.heap.size t1 a ∧ (w.alloc (.cells a t1)).heap.size = w.heap.size + 1 :=
  ⟨(Below.refl _ _).alloc (Nat.le_refl _) _, Whole1.new _ _ _, by simp⟩

theorem bd_mono (bd : Nat → Nat) (k : Nat) (h : ∀ i, i < k → bd i ≤ bd (i + 1)) : ∀ i j, i ≤ j → j ≤ k → bd i ≤ bd j
  | i, 0, h1, _ => by
    have : i = 0 := by omega
    subst this
    exact Nat.le_refl _
  | i, j + 1, h1, h2 => by
    by_cases e : i = j + 1
    · rw [e]
      exact Nat.le_refl _
    · exact Nat.le_trans (bd_mono bd k h i j (by omega) (by omega)) (h j (by omega))

end Go.Proofs.YtlmbnefoobameaaGreatDoor
end

section
namespace Go.Proofs.YtlmbnefoobameaaGreatDoor
open Go.RowKit

mutual
/-- The number of nodes. -/
def sizeTy : Ty → Nat | .mk _ _ ts => 1 + sizeTys ts
def sizeTys : List Ty → Nat | [] => 0 | t :: r => sizeTy t + sizeTys r
end
mutual
/-- The depth. -/
def depthTy : Ty → Nat | .mk _ _ ts => depthTys ts + 1
def depthTys : List Ty → Nat | [] => 0 | t :: r => max (depthTy t) (depthTys r)
end
theorem sizeTy_eq (t : Ty) : sizeTy t = 1 + sizeTys t.args := by cases t; rw [sizeTy]; rfl
theorem depthTy_eq (t : Ty) : depthTy t = depthTys t.args + 1 := by cases t; rw [depthTy]; rfl
theorem sizeTys_append : ∀ (a b : List Ty), sizeTys (a ++ b) = sizeTys a + sizeTys b
  | [], b => by simp [sizeTys]
  | t :: a, b => by
    rw [List.cons_append, sizeTys, sizeTys, sizeTys_append a b]
    omega
theorem sizeTys_take (ts : List Ty) (k : Nat) (h : k < ts.length) : sizeTys (ts.take (k + 1)) = sizeTys (ts.take k) + sizeTy ts[k] := by
  rw [List.take_succ_eq_append_getElem h, sizeTys_append, sizeTys, sizeTys]
  omega
theorem sizeTys_le (ts : List Ty) (k : Nat) : sizeTys (ts.take k) ≤ sizeTys ts := by
  have h := sizeTys_append (ts.take k) (ts.drop k)
  rw [List.take_append_drop] at h
  omega
theorem depthTys_append : ∀ (a b : List Ty), depthTys (a ++ b) = max (depthTys a) (depthTys b)
  | [], b => by simp [depthTys]
  | t :: a, b => by
    rw [List.cons_append, depthTys, depthTys, depthTys_append a b]
    omega
theorem depthTys_take (ts : List Ty) (k : Nat) (h : k < ts.length) : depthTys (ts.take (k + 1)) = max (depthTys (ts.take k)) (depthTy ts[k]) := by
  rw [List.take_succ_eq_append_getElem h, depthTys_append, depthTys, depthTys]
  omega
mutual
theorem size_le_sz : ∀ (t : Ty), sizeTy t ≤ szTy t + 1
  | .mk _ ls ts => by
    rw [sizeTy, szTy]
    have := sizes_le_szs ts
    omega
theorem sizes_le_szs : ∀ (ts : List Ty), sizeTys ts ≤ szTys ts
  | [] => Nat.le_refl _
  | t :: r => by
    rw [sizeTys, szTys]
    have := size_le_sz t
    have := sizes_le_szs r
    omega
end
mutual
theorem depth_le_size : ∀ (t : Ty), depthTy t ≤ sizeTy t
  | .mk _ _ ts => by
    rw [depthTy, sizeTy]
    have := depths_le_sizes ts
    omega
theorem depths_le_sizes : ∀ (ts : List Ty), depthTys ts ≤ sizeTys ts
  | [] => Nat.le_refl _
  | t :: r => by
    rw [depthTys, sizeTys]
    have := depth_le_size t
    have := depths_le_sizes r
    omega
end

/-- A tree is boxed: what the box holds, and what its parts are. -/
theorem boxTy {w : World} {t : Ty} {v : Value} (hv : TyAt w w.heap.size v t) : ∃ L lc A ac, v = .agg #[.int .i64 t.kind, .slice L t.labels.length lc, .slice A t.args.length ac] ∧
    t.labels.length ≤ maxLen ∧ (∀ i, (h : i < t.labels.length) → t.labels[i].size ≤ maxLen) ∧ StrsAt w w.heap.size L t.labels ∧ TysAt w w.heap.size A t.args := hv.open

def SizeOne (f : Nat) (t : Ty) : Prop := ∀ (v : Value) (w : World), TyAt w w.heap.size v t → sizeTy t ≤ 2000000 → Calls Tryz.prog f #[v] w (IntBelow (sizeTy t) w)

end Go.Proofs.YtlmbnefoobameaaGreatDoor

namespace Go.Proofs.YtlmbnefoobameaaGreatDoor
open Go.RowKit

theorem l1Max_any (a b : Int) (w : World) : Calls Tryz.prog 47 #[.int .i64 a, .int .i64 b] w fun e w' => e = .returned (.int .i64 (max a b)) ∧ w = w' := by
  by_cases h : b < a
  · have e : max a b = a := by omega
    rw [e]
    clear e
    go_enter Tryz.func47, Tryz.ntmps47
    go_wp2
    go_ret
    exact ⟨rfl, rfl⟩
  · have e : max a b = b := by omega
    rw [e]
    clear e
    go_enter Tryz.func47, Tryz.ntmps47
    go_wp2
    go_ret
    exact ⟨rfl, rfl⟩

def DepthOne (f : Nat) (t : Ty) : Prop := ∀ (v : Value) (w : World), TyAt w w.heap.size v t → sizeTy t ≤ 2000000 → Calls Tryz.prog f #[v] w (IntBelow (depthTy t) w)

def LeftOne (f : Nat) (t : Ty) : Prop := ∀ (v : Value) (left : Int) (w : World), TyAt w w.heap.size v t → 0 ≤ left → left ≤ 1000000 → Calls Tryz.prog f #[v, .int .i64 left] w (IntBelow (leftOf left (sizeTy t)) w)

theorem leftOf_step (left : Int) (a b : Nat) (h : 0 ≤ leftOf left a) : leftOf (leftOf left a) b = leftOf left (a + b) := by
  unfold leftOf at *
  by_cases h1 : left - (a : Int) < 0
  · rw [if_pos h1] at h
    omega
  · rw [if_neg h1] at h ⊢
    by_cases h2 : left - (a : Int) - (b : Int) < 0
    · rw [if_pos h2, if_pos (by omega)]
    · rw [if_neg h2, if_neg (by omega)]
      omega
theorem leftOf_neg (left : Int) (a b : Nat) (h : leftOf left a = -1) (hab : a ≤ b) : leftOf left b = -1 := by
  unfold leftOf at *
  by_cases h1 : left - (a : Int) < 0
  · rw [if_pos (by omega)]
  · rw [if_neg h1] at h
    omega
theorem leftOf_le (left : Int) (a : Nat) (h : 0 ≤ left) : leftOf left a ≤ left := by
  unfold leftOf
  split <;> omega

end Go.Proofs.YtlmbnefoobameaaGreatDoor
end

section
namespace Go.Proofs.YtlmbnefoobameaaGreatDoor
open Go.RowKit

/-- True is handed back; what was there stands. -/
def YesBelow (w : World) (e : Ending) (w' : World) : Prop := e = .returned (.bool true) ∧ Below w.heap.size w w'

theorem drewN_below (w : World) (n : Nat) : Below w.heap.size w (w.drewN n) := ⟨rfl, rfl, rfl, Nat.le_refl _, fun _ _ => rfl⟩

theorem boxes2 (w : World) (t1 t2 : TypeId) (a b : Array Value) :
    Below w.heap.size w ((w.alloc (.cells a t1)).alloc (.cells b t2)) ∧ Whole1 ((w.alloc (.cells a t1)).alloc (.cells b t2)) w.heap.size t1 a ∧
    Whole1 ((w.alloc (.cells a t1)).alloc (.cells b t2)) (w.heap.size + 1) t2 b ∧ ((w.alloc (.cells a t1)).alloc (.cells b t2)).heap.size = w.heap.size + 2 := by
  refine ⟨((Below.refl _ _).alloc (Nat.le_refl _) _).alloc (by simp) _, ?_, ?_, by simp⟩
  · exact Whole1.below (B := w.heap.size + 1) (Whole1.new _ _ _) ((Below.refl _ _).alloc (by simp) _) (by omega)
  · have h := Whole1.new (w.alloc (.cells a t1)) t2 b
    simpa using h

end Go.Proofs.YtlmbnefoobameaaGreatDoor
end
