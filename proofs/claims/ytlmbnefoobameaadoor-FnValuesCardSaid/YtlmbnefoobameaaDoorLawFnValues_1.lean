/- Lemmas: Law, LawLaid, OpenBytes, SpecDef3, SpecDef, HasLaws. -/
import Derived.ProofKit
import Derived.OpenShut
import Derived.SizedLaws
import Derived.SliceStrings
import Derived.ShutString
import Derived.ChangeOld
import Derived.Below
import Derived.LaidMore
import Derived.Lay
import Derived.LaidLaws
import Derived.Stop.Joined
import Derived.Lib.LaidTab
import Derived.MakeChecks
import Derived.OpenVars
import Derived.Test.YtlmbnefoobameaaDoorCur
import Derived.Test.YtlmbnefoobameaaDoorDefVa
import Derived.Test.YtlmbnefoobameaaDoorVCopyLib
import Derived.Deep.DeepCutAuto
import Derived.Test.YtlmbnefoobameaaDoorSpecHas
import Derived.Test.YtlmbnefoobameaaDoorSmalls

section
namespace Go.Proofs.YtlmbnefoobameaaDoor
open Go.ChangeShapes Go.WideShapes Go.ChangeAt Go.RowKit

/-- True is handed back, and nothing below the heap's old size has turned. -/
def TrueBelow (w : World) (e : Ending) (w' : World) : Prop := e = .returned (.bool true) ∧ Below w.heap.size w w'

theorem bounds_int {n : Int} (h : (Lit.int .i64 n).wf = true) : -(2 ^ 63) ≤ n ∧ n ≤ 2 ^ 63 - 1 := by
  have h1 : IntKind.i64.min = -9223372036854775808 := rfl
  have h2 : IntKind.i64.max = 9223372036854775807 := rfl
  simp only [Lit.wf, Bool.and_eq_true, decide_eq_true_eq, h1, h2] at h
  omega
theorem bounds_byte {n : Int} (h : (Lit.int .u8 n).wf = true) : 0 ≤ n ∧ n ≤ 255 := by
  have h1 : IntKind.u8.min = 0 := rfl
  have h2 : IntKind.u8.max = 255 := rfl
  simp only [Lit.wf, Bool.and_eq_true, decide_eq_true_eq, h1, h2] at h
  omega

section
variable {H : Type} {enc : TypeId × Value → H} {P : Program}

theorem below_trodAll (hl : laidOutB P = true) {W W' : World} (hb : Below W.heap.size W W') :
    ∀ (ts : List TypeId) (vs : List Value) (ds : List (DataW H)) (ps : List MemPlace), (∀ t ∈ ts, P.readableRec t = true ∧ t < P.types.size) → (∀ x ∈ ps, x.block < W.heap.size) →
      DataW.TrodAll enc P W 0 (fun _ => true) true ts vs ds ps → DataW.TrodAll enc P W' 0 (fun b => decide (b < W.heap.size)) true ts vs ds ps
  | [], vs, ds, ps, _, _, h => by
    obtain ⟨rfl, rfl, rfl⟩ := trodAll_nil h
    exact trodAll_mk0
  | t :: ts, vs, ds, ps, ht, hp, h => by
    obtain ⟨v, vs', d, ds', p, q, rfl, rfl, rfl, h0, h1⟩ := trodAll_cons h
    have ht0 := ht t (by simp)
    exact trodAll_cons_mk (Below.trod hl ht0.1 ht0.2 h0 hb (fun x hx => hp x (by simp [hx]))) (below_trodAll hl hb ts vs' ds' q (fun t' h' => ht t' (by simp [h'])) (fun x hx => hp x (by simp [hx])) h1)

/-- A law without package variables. -/
theorem law_lifted {C : Checked} {os : Os} {f : FuncId} {fn : Func} {s : ChangeSpec} {bt : TypeId} (own : ownKnob C.prog.godebug = none) (hl : laidOutB C.prog = true) (started : os.Started) (noInit : C.prog.inits.idxOf? f = none)
    (hfn : C.prog.funcs[f]? = some fn) (hv : s.vars = []) (hrt : fn.resultTypes.toList = [bt]) (hbt : C.prog.underlying bt = some .bool)
    (hts0 : (fn.params.toList.all fun t => C.prog.readableRec t && decide (t < C.prog.types.size)) = true)
    (hs : ∀ ds : List (DataW H), ds.length = fn.params.size → s.fn H (ds ++ []) = { results := [.lit (.bool true)], args := ds })
    (witness : ∃ (w : World) (tape : Tape) (i : Input), w.os = os ∧ (w.forCall tape i).Shaped C.prog ∧ i.vars = [] ∧ Input.okWide C.prog (w.forCall tape i) .any w.heap.size f i ∧
      s.pre6 enc C.prog fn [] false (w.forCall tape i).memory i.args ∧ ({} : Assume).holds C.prog (lone (Frame.enter C.prog f i.args .normal) [] (w.forCall tape i)))
    (walk : ∀ (W : World) (base : Nat) (args : Array Value) (ds : List (DataW H)) (p : List MemPlace),
      (∀ (j : Nat) t v, fn.params[j]? = some t → args[j]? = some v → Value.okWide C.prog W .any base t v) →
      DataW.TrodAll enc C.prog W 0 (fun _ => true) true fn.params.toList args.toList ds p → (∀ x ∈ p, x.block < W.heap.size) →
      Calls C.prog f args W (TrueBelow W)) :
    ReturnsInHanded {} C os f .any (s.pre6 enc C.prog fn [] false) (s.post enc C.prog fn false true false false) := by
  have hts : ∀ t ∈ fn.params.toList, C.prog.readableRec t = true ∧ t < C.prog.types.size := fun t ht => by
    have := List.all_eq_true.1 hts0 t ht
    rw [Bool.and_eq_true, decide_eq_true_eq] at this
    exact this
  refine returnsInHanded_of_change_sized own started noInit hfn witness ?_
  intro W base args ds gs before hval hW _ _ _
  have hW' := hW
  obtain ⟨p, q, hA, hV, rfl, _, _⟩ := hW
  rw [hv] at hV
  obtain ⟨rfl, rfl⟩ := trodVars_none hV
  have hlt : ∀ x ∈ p, x.block < W.heap.size := fun x hx => by simpa using hW'.lt x (by simp [hx])
  have hlen : ds.length = fn.params.size := by
    have : ∀ (ts : List TypeId) (vs : List Value) (ds : List (DataW H)) (ps : List MemPlace), DataW.TrodAll enc C.prog W 0 (fun _ => true) true ts vs ds ps → ds.length = ts.length := by
      intro ts
      induction ts with
      | nil => intro vs ds ps h; obtain ⟨_, rfl, _⟩ := trodAll_nil h; rfl
      | cons t ts ih =>
        intro vs ds ps h
        obtain ⟨v, vs', d, ds', p, q, rfl, rfl, rfl, _, h1⟩ := trodAll_cons h
        simp [ih vs' ds' q h1]
    simpa using this _ _ _ _ hA
  refine (walk W base args ds p hval hA hlt).mono fun e W' ⟨he, hb⟩ => ?_
  subst he
  refine ⟨_, rfl, ds, [], p ++ [], [], p, [], hW', ?_, ?_, ?_, hb.frame _, fun h => by cases h⟩
  · have : (Value.bool true).resultList fn.resultTypes.size = [.bool true] := by
      have : fn.resultTypes.size = 1 := by rw [← Array.length_toList, hrt]; rfl
      rw [this]; rfl
    rw [this, hrt, hs ds hlen]
    exact trodAll_mk1 (shut_bool hbt true)
  · rw [hs ds hlen]
    exact below_trodAll hl hb _ _ _ _ hts hlt hA
  · rw [hs ds hlen, hv]
    rfl

end
end Go.Proofs.YtlmbnefoobameaaDoor
end

section
namespace Go.Proofs.YtlmbnefoobameaaDoor
open Go.ChangeShapes Go.WideShapes Go.ChangeAt Go.RowKit

section
variable {H : Type} {enc : TypeId × Value → H}

theorem law_lifted_laid {C : Checked} {os : Os} {f : FuncId} {fn : Func} {s : ChangeSpec} {bt : TypeId} {laid : List (String × DataW Unit)} (own : ownKnob C.prog.godebug = none) (hl : laidOutB C.prog = true) (started : os.Started) (noInit : C.prog.inits.idxOf? f = none)
    (hfn : C.prog.funcs[f]? = some fn) (hv : s.vars = []) (hrt : fn.resultTypes.toList = [bt]) (hbt : C.prog.underlying bt = some .bool)
    (hts0 : (fn.params.toList.all fun t => C.prog.readableRec t && decide (t < C.prog.types.size)) = true)
    (hs : ∀ ds : List (DataW H), ds.length = fn.params.size → s.fn H (ds ++ []) = { results := [.lit (.bool true)], args := ds })
    (witness : ∃ (w : World) (tape : Tape) (i : Input), w.os = os ∧ (w.forCall tape i).Shaped C.prog ∧ i.vars = [] ∧ Input.okWide C.prog (w.forCall tape i) .any w.heap.size f i ∧
      ((s.pre enc C.prog fn [] false (w.forCall tape i).memory i.args ∧ laidMetH C.prog laid (w.forCall tape i).memory) ∧ sizedMet enc C.prog fn (OpenSpec.ofChange s) false (w.forCall tape i).memory i.args) ∧
      ({} : Assume).holds C.prog (lone (Frame.enter C.prog f i.args .normal) [] (w.forCall tape i)))
    (walk : ∀ (W : World) (base : Nat) (args : Array Value) (ds : List (DataW H)) (p : List MemPlace),
      (∀ (j : Nat) t v, fn.params[j]? = some t → args[j]? = some v → Value.okWide C.prog W .any base t v) →
      DataW.TrodAll enc C.prog W 0 (fun _ => true) true fn.params.toList args.toList ds p → (∀ x ∈ p, x.block < W.heap.size) →
      laidMetH C.prog laid W → W.ShapedOpen C.prog → Calls C.prog f args W (TrueBelow W)) :
    ReturnsInHanded {} C os f .any (fun w args => (s.pre enc C.prog fn [] false w args ∧ laidMetH C.prog laid w) ∧ sizedMet enc C.prog fn (OpenSpec.ofChange s) false w args) (s.post enc C.prog fn false true false false) := by
  have hts : ∀ t ∈ fn.params.toList, C.prog.readableRec t = true ∧ t < C.prog.types.size := fun t ht => by
    have := List.all_eq_true.1 hts0 t ht
    rw [Bool.and_eq_true, decide_eq_true_eq] at this
    exact this
  refine returnsInHanded_of_calls own started noInit witness ?_
  intro w tape i _ hsh _ hok hpre hholds
  obtain ⟨_, _, _, fn', hfn', _, _, _, _, hval⟩ := hok
  have e : fn' = fn := Option.some.inj (hfn'.symm.trans hfn)
  subst e
  obtain ⟨⟨⟨ds, gs, before, hw, _⟩, hx⟩, _⟩ := hpre
  have hW' := DataW.Whole.of_heap (w' := w.forCall tape i) (by rfl) hw
  have hL : laidMetH C.prog laid (w.forCall tape i) := hx.of_heap (by rfl)
  generalize hWW : w.forCall tape i = W at *
  have hWk := hW'
  obtain ⟨p, q, hA, hV, rfl, _, _⟩ := hWk
  rw [hv] at hV
  obtain ⟨rfl, rfl⟩ := trodVars_none hV
  have hlt : ∀ x ∈ p, x.block < W.heap.size := fun x hx => by simpa using hW'.lt x (by simp [hx])
  have hlen : ds.length = fn'.params.size := by
    have : ∀ (ts : List TypeId) (vs : List Value) (ds : List (DataW H)) (ps : List MemPlace), DataW.TrodAll enc C.prog W 0 (fun _ => true) true ts vs ds ps → ds.length = ts.length := by
      intro ts
      induction ts with
      | nil => intro vs ds ps h; obtain ⟨_, rfl, _⟩ := trodAll_nil h; rfl
      | cons t ts ih =>
        intro vs ds ps h
        obtain ⟨v, vs', d, ds', p, q, rfl, rfl, rfl, _, h1⟩ := trodAll_cons h
        simp [ih vs' ds' q h1]
    simpa using this _ _ _ _ hA
  refine (walk W w.heap.size i.args ds p hval hA hlt hL hsh).mono fun e W' ⟨he, hb⟩ => ?_
  subst he
  have hp : s.post enc C.prog fn' false true false false W i.args (.bool true) W' := by
    refine ⟨ds, [], p ++ [], [], p, [], hW', ?_, ?_, ?_, hb.frame _, fun h => by cases h⟩
    · have : (Value.bool true).resultList fn'.resultTypes.size = [.bool true] := by
        have : fn'.resultTypes.size = 1 := by rw [← Array.length_toList, hrt]; rfl
        rw [this]; rfl
      rw [this, hrt, hs ds hlen]
      exact trodAll_mk1 (shut_bool hbt true)
    · rw [hs ds hlen]
      exact below_trodAll hl hb _ _ _ _ hts hlt hA
    · rw [hs ds hlen, hv]
      rfl
  exact ChangeSpec.post_blind hp

end


section
variable {H : Type} {enc : TypeId × Value → H}

theorem trodVars_len {P : Program} {w : World} {sp : Nat → Bool} : ∀ {ns : List String} {gs : List (DataW H)} {ps : List MemPlace}, DataW.TrodVars enc P w sp ns gs ps → gs.length = ns.length
  | [], [], _, _ => rfl
  | [], _ :: _, _, h => h.elim
  | _ :: _, [], _, h => h.elim
  | n :: ns, d :: ds, ps, h => by
    obtain ⟨g, t, cs, fuel, p, q, h1, h2, h3, h4, hs, e⟩ := h
    simp [trodVars_len hs]

/-- The same where the specification hands on the readings of variables. -/
theorem law_lifted_vars {C : Checked} {os : Os} {f : FuncId} {fn : Func} {s : ChangeSpec} {bt : TypeId} {laid : List (String × DataW Unit)} (own : ownKnob C.prog.godebug = none) (hl : laidOutB C.prog = true) (started : os.Started) (noInit : C.prog.inits.idxOf? f = none)
    (hfn : C.prog.funcs[f]? = some fn) (hv : varsRowed C.prog s.vars = true) (hrt : fn.resultTypes.toList = [bt]) (hbt : C.prog.underlying bt = some .bool)
    (hts0 : (fn.params.toList.all fun t => C.prog.readableRec t && decide (t < C.prog.types.size)) = true)
    (hs : ∀ ds gs : List (DataW H), ds.length = fn.params.size → gs.length = s.vars.length → s.fn H (ds ++ gs) = { results := [.lit (.bool true)], args := ds, vars := gs })
    (witness : ∃ (w : World) (tape : Tape) (i : Input), w.os = os ∧ (w.forCall tape i).Shaped C.prog ∧ i.vars = [] ∧ Input.okWide C.prog (w.forCall tape i) .any w.heap.size f i ∧
      ((s.pre enc C.prog fn [] false (w.forCall tape i).memory i.args ∧ laidMetH C.prog laid (w.forCall tape i).memory) ∧ sizedMet enc C.prog fn (OpenSpec.ofChange s) false (w.forCall tape i).memory i.args) ∧
      ({} : Assume).holds C.prog (lone (Frame.enter C.prog f i.args .normal) [] (w.forCall tape i)))
    (walk : ∀ (W : World) (base : Nat) (args : Array Value) (ds : List (DataW H)) (p : List MemPlace),
      (∀ (j : Nat) t v, fn.params[j]? = some t → args[j]? = some v → Value.okWide C.prog W .any base t v) →
      DataW.TrodAll enc C.prog W 0 (fun _ => true) true fn.params.toList args.toList ds p → (∀ x ∈ p, x.block < W.heap.size) →
      laidMetH C.prog laid W → W.ShapedOpen C.prog → Calls C.prog f args W (TrueBelow W)) :
    ReturnsInHanded {} C os f .any (fun w args => (s.pre enc C.prog fn [] false w args ∧ laidMetH C.prog laid w) ∧ sizedMet enc C.prog fn (OpenSpec.ofChange s) false w args) (s.post enc C.prog fn false true false false) := by
  have hts : ∀ t ∈ fn.params.toList, C.prog.readableRec t = true ∧ t < C.prog.types.size := fun t ht => by
    have := List.all_eq_true.1 hts0 t ht
    rw [Bool.and_eq_true, decide_eq_true_eq] at this
    exact this
  refine returnsInHanded_of_calls own started noInit witness ?_
  intro w tape i _ hsh _ hok hpre hholds
  obtain ⟨_, _, _, fn', hfn', _, _, _, _, hval⟩ := hok
  have e : fn' = fn := Option.some.inj (hfn'.symm.trans hfn)
  subst e
  obtain ⟨⟨⟨ds, gs, before, hw, _⟩, hx⟩, _⟩ := hpre
  have hW' := DataW.Whole.of_heap (w' := w.forCall tape i) (by rfl) hw
  have hL : laidMetH C.prog laid (w.forCall tape i) := hx.of_heap (by rfl)
  generalize hWW : w.forCall tape i = W at *
  have hWk := hW'
  obtain ⟨p, q, hA, hV, rfl, _, _⟩ := hWk
  have hlt : ∀ x ∈ p, x.block < W.heap.size := fun x hx => by simpa using hW'.lt x (by simp [hx])
  have hlen : ds.length = fn'.params.size := by
    have : ∀ (ts : List TypeId) (vs : List Value) (ds : List (DataW H)) (ps : List MemPlace), DataW.TrodAll enc C.prog W 0 (fun _ => true) true ts vs ds ps → ds.length = ts.length := by
      intro ts
      induction ts with
      | nil => intro vs ds ps h; obtain ⟨_, rfl, _⟩ := trodAll_nil h; rfl
      | cons t ts ih =>
        intro vs ds ps h
        obtain ⟨v, vs', d, ds', p, q, rfl, rfl, rfl, _, h1⟩ := trodAll_cons h
        simp [ih vs' ds' q h1]
    simpa using this _ _ _ _ hA
  have hgl := trodVars_len hV
  refine (walk W w.heap.size i.args ds p hval hA hlt hL hsh).mono fun e W' ⟨he, hb⟩ => ?_
  subst he
  have hp : s.post enc C.prog fn' false true false false W i.args (.bool true) W' := by
    refine ⟨ds, gs, p ++ q, [], p, q, hW', ?_, ?_, ?_, hb.frame _, fun h => by cases h⟩
    · have : (Value.bool true).resultList fn'.resultTypes.size = [.bool true] := by
        have : fn'.resultTypes.size = 1 := by rw [← Array.length_toList, hrt]; rfl
        rw [this]; rfl
      rw [this, hrt, hs ds gs hlen hgl]
      exact trodAll_mk1 (shut_bool hbt true)
    · rw [hs ds gs hlen hgl]
      exact below_trodAll hl hb _ _ _ _ hts hlt hA
    · rw [hs ds gs hlen hgl]
      exact Below.trodVars hl hb hv hV
  exact ChangeSpec.post_blind hp

end

/-- A listed variable's reading. -/
theorem laidVars_mem {P : Program} {W : World} {n : String} {d : DataW Unit} : ∀ {L : List (String × DataW Unit)} {ps : List MemPlace}, DataW.LaidVars P W L ps → (n, d) ∈ L →
    ∃ g t cs fuel p, P.globalNamed n = some g ∧ (P.globals[g]?).map (·.type) = some t ∧ W.var? P n = some cs ∧ DataW.trod (fun _ => ()) P W 0 (fun _ => true) false fuel t cs.toList = some (d, p)
  | [], _, _, hm => by simp at hm
  | (n', d') :: L, ps, h, hm => by
    obtain ⟨g, t, cs, fuel, p, q, h1, h2, h3, h4, h5, _⟩ := h
    rcases List.mem_cons.1 hm with e | hm
    · cases e
      exact ⟨g, t, cs, fuel, p, h1, h2, h3, h4⟩
    · exact laidVars_mem h5 hm

/-- A listed table of integers. -/
theorem tab_of_laid {P : Program} {W : World} {L : List (String × DataW Unit)} {name : String} {k : IntKind} {zs : List Int} {g : Nat} {t e : TypeId} {n : Nat}
    (hg : P.globalNamed name = some g) (hty : (P.globals[g]?).map (·.type) = some t) (ht : P.underlying t = some (.array n e)) (he : P.underlying e = some (.int k)) (hce : P.cellsOf e = 1) (hct : P.cellsOf t = n)
    (h : laidMet P L W) (hm : (name, Lib.tabData k zs) ∈ L) : Lib.TabIs P W name k zs := by
  obtain ⟨ps, hv, _⟩ := h
  obtain ⟨g', t', cs, fuel, p, hg', ht', hvar, hd⟩ := laidVars_mem hv hm
  obtain rfl := Option.some.inj (hg.symm.trans hg')
  obtain rfl := Option.some.inj (hty.symm.trans ht')
  unfold Lib.TabIs
  rw [hvar, ← Lib.cells_of_tab ht he hce hct hd]

/-- A listed value of an interface type that is not nil. -/
theorem iface_of_laid {P : Program} {W : World} {L : List (String × DataW Unit)} {name u : String} {d : DataW Unit} {g : Nat} {t : TypeId} {ms : Array (String × TypeId)}
    (hg : P.globalNamed name = some g) (hty : (P.globals[g]?).map (·.type) = some t) (ht : P.underlying t = some (.interface ms))
    (h : laidMet P L W) (hm : (name, .iface u d) ∈ L) : ∃ tp v, W.var? P name = some #[.iface tp v] := by
  obtain ⟨ps, hv, _⟩ := h
  obtain ⟨g', t', cs, fuel, p, hg', ht', hvar, hd⟩ := laidVars_mem hv hm
  obtain rfl := Option.some.inj (hg.symm.trans hg')
  obtain rfl := Option.some.inj (hty.symm.trans ht')
  cases fuel with
  | zero => simp [DataW.trod] at hd
  | succ m =>
    simp only [DataW.trod, ht] at hd
    obtain ⟨l⟩ := cs
    match l, hd with
    | [], hd => simp at hd
    | [v], hd =>
      cases v with
      | iface tp v => exact ⟨tp, v, by rw [hvar]⟩
      | nilIface => simp at hd
      | _ => simp at hd
    | _ :: _ :: _, hd => simp at hd

end Go.Proofs.YtlmbnefoobameaaDoor
end

section
namespace Go.Proofs.YtlmbnefoobameaaDoor
open Go.ChangeShapes Go.WideShapes Go.ChangeAt Go.RowKit

theorem open_bytes_arg {H : Type} {enc : TypeId × Value → H} {P : Program} {W : World} {base : Nat} {t e : TypeId} {v : Value} {d : DataW H} {p : List MemPlace} (ht : P.underlying t = some (.slice e)) (he : P.underlying e = some (.int .u8)) (hc : P.cellsOf e = 1)
    (hv : Value.okWide P W .any base t v) (h : DataW.Trod enc P W 0 (fun _ => true) true t v d p) (hlt : ∀ x ∈ p, x.block < W.heap.size) :
    ∃ A n c, v = .slice A n c ∧ BytesAt W W.heap.size A n ∧ n ≤ maxLen := by
  obtain ⟨a0, len, cap, rfl⟩ := okWide_slice ht hv
  obtain ⟨fuel, hf⟩ := h
  rcases open_ints ht he hc hf with ⟨hcs, hx⟩ | ⟨a, len', cap', zs, hcs, _, hl, hm, hz, hx, hcell, hwz⟩
  · simp [Value.cells] at hcs
    obtain ⟨rfl, rfl, rfl⟩ := hcs
    exact ⟨none, 0, 0, rfl, fun i hi => absurd hi (by omega), Nat.zero_le _⟩
  · simp [Value.cells] at hcs
    obtain ⟨rfl, rfl, rfl⟩ := hcs
    simp only [if_true] at hz
    simp only [Prod.mk.injEq] at hx
    obtain ⟨rfl, rfl⟩ := hx
    refine ⟨some a, len, cap, rfl, fun i hi => ?_, by omega⟩
    obtain ⟨b, off, spot⟩ := a
    have hspot : spot = none := by simpa [Addr.add] using World.cell?_spot (hcell 0 (by omega))
    subst hspot
    have hc0 := hcell i (by omega)
    rw [add_plain] at hc0
    have hb := bounds_byte (hwz (zs.getD i 0) (by
      have : zs.getD i 0 = zs[i]'(by omega) := by simp [show i < zs.length by omega]
      rw [this]
      exact List.getElem_mem _))
    exact ⟨b, off, _, rfl, hlt (.cell b off) (MemPlace.mem_row.2 ⟨0, by omega, by simp⟩), hc0, hb.1, hb.2⟩

end Go.Proofs.YtlmbnefoobameaaDoor
end

section
namespace Go.Proofs.YtlmbnefoobameaaDoor
set_option maxRecDepth 100000
open Go.RowKit
attribute [local go_sem ↓] Go.wp_at_zero Go.wp_at_succ

set_option maxHeartbeats 4000000 in
theorem specDef_3 (ls : List ByteArray) (ts : List Ty) (L A : Option Addr) (lc ac : Nat) (w : World) (hl : StrsAt w w.heap.size L ls) (hn : ls.length ≤ maxLen) (hls : ls.length ≤ 1048576) (hz : ∀ i, (h : i < ls.length) → ls[i].size ≤ maxLen) (ha : TysAt w w.heap.size A ts) (hsz : szTys ts ≤ 1048576)
    (hall : ∀ i, (h : i < ts.length) → ∀ (v : Value) (W : World), TyAt W W.heap.size v ts[i] → Calls Tryd.prog 51 #[v] W (NewVa W (defVa ts[i]))) :
    Calls Tryd.prog 51 #[.agg #[.int .i64 3, .slice L ls.length lc, .slice A ts.length ac]] w (NewVa w (.mk 3 0 ⟨#[]⟩ ls (defVas ts))) := by
  have HALL := Lib.hid hall
  have HN := Lib.hid hz
  clear hall hz
  have HRL := Lib.hid (fun k (hk : k < ts.length) => (show k < (defVas ts).length by rw [defVas_len]; exact hk))
  have HRN := Lib.hid (defVas_len ts)
  have HNM := Lib.hid (show (⟨#[]⟩ : ByteArray).size ≤ maxLen by simp [ByteArray.size])
  have hle : ts.length ≤ 1048576 := by have := szTys_len ts; omega
  obtain ⟨i0, hi, hz0, hz1, hz2⟩ := info_parts infoString
  obtain ⟨hb0, p0, r0, hs0⟩ := boxes2 w 30 27 #[.int .i64 3, .slice L ls.length lc, .slice A ts.length ac] #[.int .i64 0, .int .i64 0, .string ⟨#[]⟩, .slice none 0 0, .slice none 0 0]
  go_enter Tryd.func51, Tryd.ntmps51
  go_upto_region 7 with fail
  generalize (w.alloc (.cells #[.int .i64 3, .slice L ls.length lc, .slice A ts.length ac] 30)).alloc (.cells #[.int .i64 0, .int .i64 0, .string ⟨#[]⟩, .slice none 0 0, .slice none 0 0] 27) = w0 at *
  have hl0 := hl.up' hb0
  have HZ := Lib.hid hs0
  clear hs0 hl
  have hpl := p0.lt
  have hE0b : Below w0.heap.size w0 (w0.alloc (.cells #[] 9)) := (Below.refl _ _).alloc (Nat.le_refl _) _
  have hE0 : (w0.alloc (.cells #[] 9)).ownsRow w0.heap.size 9 1 (.slice (some ⟨w0.heap.size, 0, none⟩) 0 0) 0 [] := World.ownsRow_lit w0 #[] 0 (Nat.le_refl _) (Nat.zero_le _) rfl
  have q1 : (w0.alloc (.cells #[] 9)).cell? ⟨w.heap.size, 1, none⟩ = some (.slice L ls.length lc) := (hE0b.cell (p := ⟨w.heap.size, 1, none⟩) hpl).trans (p0.cell 1)
  go_wp2_with (at_builtin; refine wpList_append_cells _ rfl (.tmp 15) (.tmp 17) _ rfl w0.heap.size 9 i0 (.string ⟨#[]⟩) 1 16 Tryd.underlying24 hi hz0 hz1 hz2 rfl (by decide) _ 0 [] rfl hE0 L ls.length lc (strVals ls) rfl (by simp [strVals]) (hl0.up' hE0b).cells (strVals_one _) (by unfold maxLen; omega) (by omega) hE0b.size ?_; intro v1 w1 hown1 hg1; obtain ⟨A1, c1, rfl, hrow0⟩ := own_form (ss := ls) hown1 (by simp))
  have hB1 := hE0b.grown hg1 hE0b.size (fun q hq => (hE0.lt q hq).1)
  clear q1 hown1 hg1 hE0 hE0b
  have ho0 : Whole1 (w1.alloc (.cells #[.int .i64 3, .int .i64 0, .string ⟨#[]⟩, .slice A1 ls.length c1, .slice none 0 0] 27)) w1.heap.size 27 #[.int .i64 3, .int .i64 0, .string ⟨#[]⟩, .slice A1 ls.length c1, .slice none 0 0] := Whole1.new _ _ _
  have hrow : ls = [] ∨ ∃ g, A1 = some ⟨g, 0, none⟩ ∧ w0.heap.size ≤ g ∧ w1.heap.size ≠ g ∧ RowStrs (w1.alloc (.cells #[.int .i64 3, .int .i64 0, .string ⟨#[]⟩, .slice A1 ls.length c1, .slice none 0 0] 27)) g ls := hrow0.imp id fun ⟨g, h1, h2, h3⟩ => ⟨g, h1, h2, fun e => by have := h3.lt; omega, h3.below ((Below.refl _ _).alloc (Nat.le_refl _) _) h3.lt⟩
  have hbc : Below w0.heap.size w0 (w1.alloc (.cells #[.int .i64 3, .int .i64 0, .string ⟨#[]⟩, .slice A1 ls.length c1, .slice none 0 0] 27)) := hB1.alloc hB1.size _
  have hpo := hB1.size
  have HROW0 := Lib.hid hrow
  have HO0 := Lib.hid ho0
  clear hrow ho0 hrow0 hB1
  go_wp2
  generalize w1.alloc (.cells #[.int .i64 3, .int .i64 0, .string ⟨#[]⟩, .slice A1 ls.length c1, .slice none 0 0] 27) = wc at *
  generalize w1.heap.size = po at *
  have hrow := HROW0.out
  have ho0 := HO0.out
  have p1 := p0.below hbc p0.lt
  have r1 := r0.below hbc r0.lt
  have hb1 := hb0.trans (hbc.mono hb0.size)
  have ha1 := ha.up hb1
  have hpl : w.heap.size < wc.heap.size := p1.lt
  have hrl : w.heap.size + 1 < wc.heap.size := r1.lt
  have hol : po < wc.heap.size := ho0.lt
  have hpo' : w.heap.size + 2 ≤ po := by have := HZ.out; omega
  have HROW := Lib.hid hrow
  have hm := ha1.1
  have hmn := Lib.hid hm
  obtain ⟨i1, hi1, hy0, hy1, hy2⟩ := info_parts infoValue
  clear p0 r0 hl0 hrow hm
  go_wp2
  go_loopw [4] (fun i wr => ∃ (k : Nat) (c2 : Nat) (A2 : Option Addr), k ≤ ts.length ∧ i = .int .i64 k ∧ Whole1 wr po 27 #[.int .i64 3, .int .i64 0, .string ⟨#[]⟩, .slice A1 ls.length c1, .slice A2 k c2] ∧ VGather wr wc.heap.size (.slice A2 k c2) k (defVas ts) ∧ (∀ q, q < wc.heap.size → q ≠ po → wr.heap[q]? = wc.heap[q]?) ∧ Below w.heap.size w wr ∧ wc.heap.size ≤ wr.heap.size) (fun i _ => ts.length - (intOf i).toNat)
  case atStart => exact ⟨0, 0, none, Nat.zero_le _, rfl, ho0, VGather.start _ _ _, fun _ _ _ => rfl, hb1, Nat.le_refl _⟩
  case round =>
    obtain ⟨k, c2, A2, hk, rfl, ho, hga, hold, hb, hsz1⟩ := hrel
    have HOLD := Lib.hid hold
    have p2 : Whole1 wr w.heap.size 30 #[.int .i64 3, .slice L ls.length lc, .slice A ts.length ac] := (hold _ hpl (by omega)).trans p1
    have q2 : wr.cell? ⟨w.heap.size, 2, none⟩ = some (.slice A ts.length ac) := p2.cell 2
    clear hold
    by_cases hlt : k < ts.length
    · obtain ⟨xs, vs, lo, hi', hG⟩ := hga
      obtain ⟨b, off, M, mc, C, cc, rfl, hbl, e0, e1, e2, _, _, _, _, ht⟩ := (ha.below hb).elem k hlt
      have hbs := hb.size
      have HT := Lib.hid (HALL.out k hlt _ wr.drew ((ht.more hbs).up (Below.refl _ _).drew))
      have HG := Lib.hid hG
      have HO := Lib.hid ho
      have o2 : wr.cell? ⟨po, 4, none⟩ = some (.slice A2 k c2) := ho.cell 4
      have f2 : wr.frozen? ⟨po, 4, none⟩ = false := ho.free 4
      have hbw : b < wr.heap.size := by omega
      have hpw : w.heap.size < wr.heap.size := by omega
      have how : po < wr.heap.size := by omega
      have hown0 := hG.own
      have HOWN := Lib.hid hown0
      have hrl2 := HRL.out k hlt
      clear hG ho ht p2 hown0
      go_wp2
      go_region_law (first
        | (go_simp; go_at_call 51; refine HT.out.mono ?_; rintro e w1 ⟨v1, rfl, ht1, hb1⟩; have HT1 := Lib.hid ht1; obtain ⟨T1, U1, T2, U2, _, rfl, _⟩ := ht1.open; clear ht1; have hb1' := (Below.refl wr.heap.size wr).drew.trans hb1; have y2 := (hb1'.cell (p := ⟨po, 4, none⟩) how).trans o2; have y3 := ((hb1'.alloc hb1'.size (.cells #[.int .i64 (defVa ts[k]).kind, .int .i64 (defVa ts[k]).num, .string (defVa ts[k]).name, .slice T1 (defVa ts[k]).labels.length U1, .slice T2 (defVa ts[k]).args.length U2] 27)).cell (p := ⟨po, 4, none⟩) how).trans o2; have hown2 := World.ownsRow.alloc (own_keep5 HOWN.out (fun g hg => hb1'.block g (HOWN.out.lt g hg).2)) (.cells #[.int .i64 (defVa ts[k]).kind, .int .i64 (defVa ts[k]).num, .string (defVa ts[k]).name, .slice T1 (defVa ts[k]).labels.length U1, .slice T2 (defVa ts[k]).args.length U2] 27); have hnews := news5 w1 27 (.int .i64 (defVa ts[k]).kind) (.int .i64 (defVa ts[k]).num) (.string (defVa ts[k]).name) (.slice T1 (defVa ts[k]).labels.length U1) (.slice T2 (defVa ts[k]).args.length U2))
        | (refine step_append_lies _ (by rfl) (.tmp 28) (.tmp 35) _ (by rfl) wc.heap.size 27 i1 (.agg #[.int .i64 0, .int .i64 0, .string ⟨#[]⟩, .slice none 0 0, .slice none 0 0]) 5 80 Tryd.underlying25 hi1 hy0 hy1 hy2 rfl (by decide) _ k xs (by rfl) hown2 ⟨w1.heap.size, 0, none⟩ 1 1 [.int .i64 (defVa ts[k]).kind, .int .i64 (defVa ts[k]).num, .string (defVa ts[k]).name, .slice T1 (defVa ts[k]).labels.length U1, .slice T2 (defVa ts[k]).args.length U2] (by rfl) rfl hnews.1 hnews.2 (by omega) (by unfold maxLen; omega) (by omega) (by have := hb1'.size; simp; omega) (w1.heap.size + 1) (by simp) ?_; intro g cap w3 hown3 hg3 hat3 hlt3; have hvb := fun q (hq : (Value.slice A2 k c2).ownBlock = some q) => (HOWN.out.lt q hq).1; have ho3 : Whole1 w3 po 27 #[.int .i64 3, .int .i64 0, .string ⟨#[]⟩, .slice A1 ls.length c1, .slice A2 k c2] := ((hg3.block po (by have := hb1'.size; simp; omega) (fun e => by have := hvb po e.symm; omega)).trans (Below.heap_alloc _ _ _ (by have := hb1'.size; omega))).trans ((hb1'.block po how).trans HO.out); have m2 : w3.cell? ⟨po, 4, none⟩ = some (.slice A2 k c2) := ho3.cell 4; have n2 : w3.frozen? ⟨po, 4, none⟩ = false := ho3.free 4))
      all_goals
        go_wp2
        go_roundw
        case rel => exact ⟨k + 1, cap, some ⟨g, 0, none⟩, by omega, by go_num, vcopy_rel hrl2 hol (by omega) hsz1 HG.out hb1' (by rw [defVas_at ts k hlt hrl2]; exact HT1.out) hown3 hg3 hat3 ho3 HOLD.out hb⟩
        case measure => simp [intOf]; omega
    · have hke : k = ts.length := by omega
      subst hke
      have r2 : Whole1 wr (w.heap.size + 1) 27 #[.int .i64 0, .int .i64 0, .string ⟨#[]⟩, .slice none 0 0, .slice none 0 0] := (HOLD.out _ hrl (by omega)).trans r1
      have o0 : wr.cell? ⟨po, 0, none⟩ = some (.int .i64 3) := ho.cell 0
      have o1 : wr.cell? ⟨po, 1, none⟩ = some (.int .i64 0) := ho.cell 1
      have o2 : wr.cell? ⟨po, 2, none⟩ = some (.string ⟨#[]⟩) := ho.cell 2
      have o3 : wr.cell? ⟨po, 3, none⟩ = some (.slice A1 ls.length c1) := ho.cell 3
      have o4 : wr.cell? ⟨po, 4, none⟩ = some (.slice A2 ts.length c2) := ho.cell 4
      have d0 : wr.cell? ⟨w.heap.size + 1, 0, none⟩ = some (.int .i64 0) := r2.cell 0
      have e0 : wr.frozen? ⟨w.heap.size + 1, 0, none⟩ = false := r2.free 0
      have d1 : wr.cell? ⟨w.heap.size + 1, 1, none⟩ = some (.int .i64 0) := r2.cell 1
      have e1 : wr.frozen? ⟨w.heap.size + 1, 1, none⟩ = false := r2.free 1
      have d2 : wr.cell? ⟨w.heap.size + 1, 2, none⟩ = some (.string ⟨#[]⟩) := r2.cell 2
      have e2 : wr.frozen? ⟨w.heap.size + 1, 2, none⟩ = false := r2.free 2
      have d3 : wr.cell? ⟨w.heap.size + 1, 3, none⟩ = some (.slice none 0 0) := r2.cell 3
      have e3 : wr.frozen? ⟨w.heap.size + 1, 3, none⟩ = false := r2.free 3
      have d4 : wr.cell? ⟨w.heap.size + 1, 4, none⟩ = some (.slice none 0 0) := r2.cell 4
      have e4 : wr.frozen? ⟨w.heap.size + 1, 4, none⟩ = false := r2.free 4
      have hdone : VasIn wr (Span wc.heap.size wr.heap.size) A2 (defVas ts) := by
        have h1 := HRN.out
        rw [← h1] at hga
        exact hga.done (by rw [h1]; exact hmn.out)
      have HD := Lib.hid hdone
      clear p2 r2 ho hga hdone q2
      have q2 : wr.cell? ⟨w.heap.size, 2, none⟩ = some (.slice A ts.length ac) := by
        have : Whole1 wr w.heap.size 30 #[.int .i64 3, .slice L ls.length lc, .slice A ts.length ac] := (HOLD.out _ hpl (by omega)).trans p1
        exact this.cell 2
      go_wp2
      refine bodyPost_ret (v := .agg #[.int .i64 3, .int .i64 0, .string ⟨#[]⟩, .slice A1 ls.length c1, .slice A2 ts.length c2]) (by simp [results, Tryd.results51, go_sem, d0, d1, d2, d3, d4]) rfl ⟨_, rfl, ?_, ?_⟩
      · have hk' : ∀ q, q ≠ w.heap.size + 1 → (((((wr.setCell ⟨w.heap.size + 1, 0, none⟩ (.int .i64 3)).setCell ⟨w.heap.size + 1, 1, none⟩ (.int .i64 0)).setCell ⟨w.heap.size + 1, 2, none⟩ (.string ⟨#[]⟩)).setCell ⟨w.heap.size + 1, 3, none⟩ (.slice A1 ls.length c1)).setCell ⟨w.heap.size + 1, 4, none⟩ (.slice A2 ts.length c2)).heap[q]? = wr.heap[q]? := fun q hq => by
          rw [Below.heap_setCell _ _ _ _ hq, Below.heap_setCell _ _ _ _ hq, Below.heap_setCell _ _ _ _ hq, Below.heap_setCell _ _ _ _ hq, Below.heap_setCell _ _ _ _ hq]
        have hS : (((((wr.setCell ⟨w.heap.size + 1, 0, none⟩ (.int .i64 3)).setCell ⟨w.heap.size + 1, 1, none⟩ (.int .i64 0)).setCell ⟨w.heap.size + 1, 2, none⟩ (.string ⟨#[]⟩)).setCell ⟨w.heap.size + 1, 3, none⟩ (.slice A1 ls.length c1)).setCell ⟨w.heap.size + 1, 4, none⟩ (.slice A2 ts.length c2)).heap.size = wr.heap.size := by simp [World.setCell]
        rw [hS]
        have hD2 := HD.out.keep (w' := (((((wr.setCell ⟨w.heap.size + 1, 0, none⟩ (.int .i64 3)).setCell ⟨w.heap.size + 1, 1, none⟩ (.int .i64 0)).setCell ⟨w.heap.size + 1, 2, none⟩ (.string ⟨#[]⟩)).setCell ⟨w.heap.size + 1, 3, none⟩ (.slice A1 ls.length c1)).setCell ⟨w.heap.size + 1, 4, none⟩ (.slice A2 ts.length c2))) fun b hb' _ => hk' b (by have := hb'.1; omega)
        have hzz := HZ.out
        have hrn := HRN.out
        rcases HROW.out with hl0 | ⟨g, hA1, hg0, hgp, hrg⟩
        · have h9 := VaIn.of (t := (.mk 3 0 ⟨#[]⟩ ls (defVas ts))) (L := A1) (lc := c1) (ac := c2) (gl := 0) (S := Span w.heap.size wr.heap.size) HNM.out hn HN.out (.inl hl0) hD2 fun b hb' => ⟨⟨by have := hb'.1; omega, hb'.2⟩, by have := hb'.1; omega⟩
          simp only [Va.kind, Va.num, Va.name, Va.labels, Va.args, hrn] at h9
          exact h9
        · have hgl := hrg.lt
          have h9 := VaIn.of (t := (.mk 3 0 ⟨#[]⟩ ls (defVas ts))) (L := A1) (lc := c1) (ac := c2) (gl := g) (S := Span w.heap.size wr.heap.size) HNM.out hn HN.out (.inr ⟨hA1, ⟨by omega, by omega⟩, (hrg.same (HOLD.out g hgl fun e => hgp e.symm)).same (hk' g (by omega))⟩) hD2 fun b hb' => ⟨⟨by have := hb'.1; omega, hb'.2⟩, by have := hb'.1; omega⟩
          simp only [Va.kind, Va.num, Va.name, Va.labels, Va.args, hrn] at h9
          exact h9
      · exact ((((hb.setCell (by simp) _).setCell (by simp) _).setCell (by simp) _).setCell (by simp) _).setCell (by simp) _

end Go.Proofs.YtlmbnefoobameaaDoor
end

section
namespace Go.Proofs.YtlmbnefoobameaaDoor
set_option maxRecDepth 100000
open Go.RowKit
attribute [local go_sem ↓] Go.wp_at_zero Go.wp_at_succ

def DefOne (f : Nat) (t : Ty) : Prop := ∀ (v : Value) (w : World), TyAt w w.heap.size v t → formTy t = true → szTy t ≤ 1048576 → Calls Tryd.prog f #[v] w (NewVa w (defVa t))

set_option maxHeartbeats 1000000 in
theorem specDef_1 (ls : List ByteArray) (ts : List Ty) (L A : Option Addr) (lc ac : Nat) (w : World) : Calls Tryd.prog 51 #[.agg #[.int .i64 1, .slice L ls.length lc, .slice A ts.length ac]] w (NewVa w (.mk 1 0 ⟨#[]⟩ [] [])) := by
  obtain ⟨hb0, p0, r0, hs0⟩ := boxes2 w 30 27 #[.int .i64 1, .slice L ls.length lc, .slice A ts.length ac] #[.int .i64 0, .int .i64 0, .string ⟨#[]⟩, .slice none 0 0, .slice none 0 0]
  go_enter Tryd.func51, Tryd.ntmps51
  go_wp2_with fail
  generalize (w.alloc (.cells #[.int .i64 1, .slice L ls.length lc, .slice A ts.length ac] 30)).alloc (.cells #[.int .i64 0, .int .i64 0, .string ⟨#[]⟩, .slice none 0 0, .slice none 0 0] 27) = w0 at *
  refine (l5Int_any 0 w0).mono ?_
  rintro e w1 ⟨rfl, hb1⟩
  have hb1' := hb0.trans (hb1.mono hb0.size)
  have r1 := r0.below hb1 r0.lt
  have d0 : w1.cell? ⟨w.heap.size + 1, 0, none⟩ = some (.int .i64 0) := r1.cell 0
  have e0 : w1.frozen? ⟨w.heap.size + 1, 0, none⟩ = false := r1.free 0
  have d1 : w1.cell? ⟨w.heap.size + 1, 1, none⟩ = some (.int .i64 0) := r1.cell 1
  have e1 : w1.frozen? ⟨w.heap.size + 1, 1, none⟩ = false := r1.free 1
  have d2 : w1.cell? ⟨w.heap.size + 1, 2, none⟩ = some (.string ⟨#[]⟩) := r1.cell 2
  have e2 : w1.frozen? ⟨w.heap.size + 1, 2, none⟩ = false := r1.free 2
  have d3 : w1.cell? ⟨w.heap.size + 1, 3, none⟩ = some (.slice none 0 0) := r1.cell 3
  have e3 : w1.frozen? ⟨w.heap.size + 1, 3, none⟩ = false := r1.free 3
  have d4 : w1.cell? ⟨w.heap.size + 1, 4, none⟩ = some (.slice none 0 0) := r1.cell 4
  have e4 : w1.frozen? ⟨w.heap.size + 1, 4, none⟩ = false := r1.free 4
  clear p0 r0 r1 hs0
  go_wp2
  refine bodyPost_ret (v := .agg #[.int .i64 1, .int .i64 0, .string ⟨#[]⟩, .slice none 0 0, .slice none 0 0]) (by simp [results, Tryd.results51, go_sem, d0, d1, d2, d3, d4]) rfl ⟨_, rfl, ?_, ?_⟩
  · exact VaIn.leaf _ _ _ _ _ _ _ _ _ (by simp [ByteArray.size])
  · exact ((((hb1'.setCell (by simp) _).setCell (by simp) _).setCell (by simp) _).setCell (by simp) _).setCell (by simp) _

set_option maxHeartbeats 1000000 in
theorem specDef_2 (ls : List ByteArray) (ts : List Ty) (L A : Option Addr) (lc ac : Nat) (w : World) : Calls Tryd.prog 51 #[.agg #[.int .i64 2, .slice L ls.length lc, .slice A ts.length ac]] w (NewVa w (.mk 2 0 ⟨#[]⟩ [] [])) := by
  obtain ⟨hb0, p0, r0, hs0⟩ := boxes2 w 30 27 #[.int .i64 2, .slice L ls.length lc, .slice A ts.length ac] #[.int .i64 0, .int .i64 0, .string ⟨#[]⟩, .slice none 0 0, .slice none 0 0]
  go_enter Tryd.func51, Tryd.ntmps51
  go_wp2_with fail
  generalize (w.alloc (.cells #[.int .i64 2, .slice L ls.length lc, .slice A ts.length ac] 30)).alloc (.cells #[.int .i64 0, .int .i64 0, .string ⟨#[]⟩, .slice none 0 0, .slice none 0 0] 27) = w0 at *
  refine (l5Bool_any false w0).mono ?_
  rintro e w1 ⟨rfl, hb1⟩
  have hb1' := hb0.trans (hb1.mono hb0.size)
  have r1 := r0.below hb1 r0.lt
  have d0 : w1.cell? ⟨w.heap.size + 1, 0, none⟩ = some (.int .i64 0) := r1.cell 0
  have e0 : w1.frozen? ⟨w.heap.size + 1, 0, none⟩ = false := r1.free 0
  have d1 : w1.cell? ⟨w.heap.size + 1, 1, none⟩ = some (.int .i64 0) := r1.cell 1
  have e1 : w1.frozen? ⟨w.heap.size + 1, 1, none⟩ = false := r1.free 1
  have d2 : w1.cell? ⟨w.heap.size + 1, 2, none⟩ = some (.string ⟨#[]⟩) := r1.cell 2
  have e2 : w1.frozen? ⟨w.heap.size + 1, 2, none⟩ = false := r1.free 2
  have d3 : w1.cell? ⟨w.heap.size + 1, 3, none⟩ = some (.slice none 0 0) := r1.cell 3
  have e3 : w1.frozen? ⟨w.heap.size + 1, 3, none⟩ = false := r1.free 3
  have d4 : w1.cell? ⟨w.heap.size + 1, 4, none⟩ = some (.slice none 0 0) := r1.cell 4
  have e4 : w1.frozen? ⟨w.heap.size + 1, 4, none⟩ = false := r1.free 4
  clear p0 r0 r1 hs0
  go_wp2
  refine bodyPost_ret (v := .agg #[.int .i64 2, .int .i64 0, .string ⟨#[]⟩, .slice none 0 0, .slice none 0 0]) (by simp [results, Tryd.results51, go_sem, d0, d1, d2, d3, d4]) rfl ⟨_, rfl, ?_, ?_⟩
  · exact VaIn.leaf _ _ _ _ _ _ _ _ _ (by simp [ByteArray.size])
  · exact ((((hb1'.setCell (by simp) _).setCell (by simp) _).setCell (by simp) _).setCell (by simp) _).setCell (by simp) _

set_option maxHeartbeats 1000000 in
theorem specDef_5 (ls : List ByteArray) (ts : List Ty) (L A : Option Addr) (lc ac : Nat) (w : World) : Calls Tryd.prog 51 #[.agg #[.int .i64 5, .slice L ls.length lc, .slice A ts.length ac]] w (NewVa w (.mk 5 0 ⟨#[]⟩ [] [])) := by
  obtain ⟨hb0, p0, r0, hs0⟩ := boxes2 w 30 27 #[.int .i64 5, .slice L ls.length lc, .slice A ts.length ac] #[.int .i64 0, .int .i64 0, .string ⟨#[]⟩, .slice none 0 0, .slice none 0 0]
  go_enter Tryd.func51, Tryd.ntmps51
  go_upto_region 15 with fail
  generalize (w.alloc (.cells #[.int .i64 5, .slice L ls.length lc, .slice A ts.length ac] 30)).alloc (.cells #[.int .i64 0, .int .i64 0, .string ⟨#[]⟩, .slice none 0 0, .slice none 0 0] 27) = w0 at *
  have d0 : w0.cell? ⟨w.heap.size + 1, 0, none⟩ = some (.int .i64 0) := r0.cell 0
  have e0 : w0.frozen? ⟨w.heap.size + 1, 0, none⟩ = false := r0.free 0
  have d1 : w0.cell? ⟨w.heap.size + 1, 1, none⟩ = some (.int .i64 0) := r0.cell 1
  have e1 : w0.frozen? ⟨w.heap.size + 1, 1, none⟩ = false := r0.free 1
  have d2 : w0.cell? ⟨w.heap.size + 1, 2, none⟩ = some (.string ⟨#[]⟩) := r0.cell 2
  have e2 : w0.frozen? ⟨w.heap.size + 1, 2, none⟩ = false := r0.free 2
  have d3 : w0.cell? ⟨w.heap.size + 1, 3, none⟩ = some (.slice none 0 0) := r0.cell 3
  have e3 : w0.frozen? ⟨w.heap.size + 1, 3, none⟩ = false := r0.free 3
  have d4 : w0.cell? ⟨w.heap.size + 1, 4, none⟩ = some (.slice none 0 0) := r0.cell 4
  have e4 : w0.frozen? ⟨w.heap.size + 1, 4, none⟩ = false := r0.free 4
  clear p0 r0 hs0
  go_wp2
  refine bodyPost_ret (v := .agg #[.int .i64 5, .int .i64 0, .string ⟨#[]⟩, .slice none 0 0, .slice none 0 0]) (by simp [results, Tryd.results51, go_sem, d0, d1, d2, d3, d4]) rfl ⟨_, rfl, ?_, ?_⟩
  · exact VaIn.leaf _ _ _ _ _ _ _ _ _ (by simp [ByteArray.size])
  · exact ((((hb0.setCell (by simp) _).setCell (by simp) _).setCell (by simp) _).setCell (by simp) _).setCell (by simp) _

set_option maxHeartbeats 4000000 in
theorem specDef_4 (ls : List ByteArray) (ts : List Ty) (L A : Option Addr) (lc ac : Nat) (w : World) (hl : StrsAt w w.heap.size L ls) (hz : ∀ i, (h : i < ls.length) → ls[i].size ≤ maxLen) (ha : TysAt w w.heap.size A ts) (h0l : 0 < ls.length) (h0t : 0 < ts.length)
    (hall : ∀ (v : Value) (W : World), TyAt W W.heap.size v ts[0] → Calls Tryd.prog 51 #[v] W (NewVa W (defVa ts[0]))) :
    Calls Tryd.prog 51 #[.agg #[.int .i64 4, .slice L ls.length lc, .slice A ts.length ac]] w (NewVa w (.mk 4 0 ls[0] [] [defVa ts[0]])) := by
  have HALL := Lib.hid hall
  have HN := Lib.hid hz
  obtain ⟨hb0, p0, r0, hs0⟩ := boxes2 w 30 27 #[.int .i64 4, .slice L ls.length lc, .slice A ts.length ac] #[.int .i64 0, .int .i64 0, .string ⟨#[]⟩, .slice none 0 0, .slice none 0 0]
  have h0lI : (0 : Int) < (ls.length : Int) := by omega
  have h0tI : (0 : Int) < (ts.length : Int) := by omega
  obtain ⟨b, off, rfl, hbw1, q2a⟩ := hl 0 h0l
  obtain ⟨b', off', M, mc, C, cc, rfl, hbw1', q3a, q4a, q5a, _, _, _, _, ht⟩ := ha.elem 0 h0t
  rw [Nat.zero_mul, Nat.add_zero] at q3a q4a q5a
  rw [Nat.add_zero] at q2a
  have q2 := (hb0.cell (p := ⟨b, off, none⟩) hbw1).trans q2a
  have q3 := (hb0.cell (p := ⟨b', off', none⟩) hbw1').trans q3a
  have q4 := (hb0.cell (p := ⟨b', off' + 1, none⟩) hbw1').trans q4a
  have q5 := (hb0.cell (p := ⟨b', off' + 2, none⟩) hbw1').trans q5a
  have ht0 := ht.up hb0
  clear hall hz hl ha q2a q3a q4a q5a ht
  go_enter Tryd.func51, Tryd.ntmps51
  go_upto_region 14 with fail
  generalize (w.alloc (.cells #[.int .i64 4, .slice (some ⟨b, off, none⟩) ls.length lc, .slice (some ⟨b', off', none⟩) ts.length ac] 30)).alloc (.cells #[.int .i64 0, .int .i64 0, .string ⟨#[]⟩, .slice none 0 0, .slice none 0 0] 27) = w0 at *
  have hbw : b < w0.heap.size := by omega
  have hbw' : b' < w0.heap.size := by omega
  have q0 : w0.cell? ⟨w.heap.size, 1, none⟩ = some (.slice (some ⟨b, off, none⟩) ls.length lc) := p0.cell 1
  have q1 : w0.cell? ⟨w.heap.size, 2, none⟩ = some (.slice (some ⟨b', off', none⟩) ts.length ac) := p0.cell 2
  have hpl := p0.lt
  have ed := (Below.refl w0.heap.size w0).drew
  have HT := Lib.hid (HALL.out _ w0.drew (ht0.up ed))
  have HR0 := Lib.hid r0
  have HZ := Lib.hid hs0
  clear p0 r0 hs0 ht0
  go_region_held3 (fun x => x.cell? ⟨w.heap.size, 1, none⟩ = some (.slice (some ⟨b, off, none⟩) ls.length lc) ∧ x.cell? ⟨w.heap.size, 2, none⟩ = some (.slice (some ⟨b', off', none⟩) ts.length ac) ∧ x.cell? ⟨b, off, none⟩ = some (.string ls[0]) ∧ x.cell? ⟨b', off', none⟩ = some (.int .i64 ts[0].kind) ∧ x.cell? ⟨b', off' + 1, none⟩ = some (.slice M ts[0].labels.length mc) ∧ x.cell? ⟨b', off' + 2, none⟩ = some (.slice C ts[0].args.length cc)) ((first | (with_reducible exact ⟨(ed.cell (p := ⟨w.heap.size, 1, none⟩) hpl).trans q0, (ed.cell (p := ⟨w.heap.size, 2, none⟩) hpl).trans q1, (ed.cell (p := ⟨b, off, none⟩) hbw).trans q2, (ed.cell (p := ⟨b', off', none⟩) hbw').trans q3, (ed.cell (p := ⟨b', off' + 1, none⟩) hbw').trans q4, (ed.cell (p := ⟨b', off' + 2, none⟩) hbw').trans q5⟩) | (with_reducible exact ⟨k0, k1, k2, k3, k4, k5⟩) | (with_reducible exact ⟨m0, m1, m2, m3, m4, m5⟩) | (with_reducible exact ⟨s0, s1, s2, s3, s4, s5⟩)))
    (first | (go_at_call 51; refine HT.out.mono ?_; rintro e w1 ⟨v1, rfl, ht1, hb1⟩; have HT1 := Lib.hid ht1; obtain ⟨T1, U1, T2, U2, _, rfl, _⟩ := ht1.open; clear ht1; have hb1' := ed.trans hb1; have hbA := hb1'.alloc hb1'.size (.cells #[.int .i64 (defVa ts[0]).kind, .int .i64 (defVa ts[0]).num, .string (defVa ts[0]).name, .slice T1 (defVa ts[0]).labels.length U1, .slice T2 (defVa ts[0]).args.length U2] 27); have r2 := (HR0.out.below hbA HR0.out.lt); have k0 := (hb1'.cell (p := ⟨w.heap.size, 1, none⟩) hpl).trans q0; have k1 := (hb1'.cell (p := ⟨w.heap.size, 2, none⟩) hpl).trans q1; have k2 := (hb1'.cell (p := ⟨b, off, none⟩) hbw).trans q2; have k3 := (hb1'.cell (p := ⟨b', off', none⟩) hbw').trans q3; have k4 := (hb1'.cell (p := ⟨b', off' + 1, none⟩) hbw').trans q4; have k5 := (hb1'.cell (p := ⟨b', off' + 2, none⟩) hbw').trans q5; have m0 := (hbA.cell (p := ⟨w.heap.size, 1, none⟩) hpl).trans q0; have m1 := (hbA.cell (p := ⟨w.heap.size, 2, none⟩) hpl).trans q1; have m2 := (hbA.cell (p := ⟨b, off, none⟩) hbw).trans q2; have m3 := (hbA.cell (p := ⟨b', off', none⟩) hbw').trans q3; have m4 := (hbA.cell (p := ⟨b', off' + 1, none⟩) hbw').trans q4; have m5 := (hbA.cell (p := ⟨b', off' + 2, none⟩) hbw').trans q5; have d0 : (w1.alloc (.cells #[.int .i64 (defVa ts[0]).kind, .int .i64 (defVa ts[0]).num, .string (defVa ts[0]).name, .slice T1 (defVa ts[0]).labels.length U1, .slice T2 (defVa ts[0]).args.length U2] 27)).cell? ⟨w.heap.size + 1, 0, none⟩ = some (.int .i64 0) := r2.cell 0; have e0 : (w1.alloc (.cells #[.int .i64 (defVa ts[0]).kind, .int .i64 (defVa ts[0]).num, .string (defVa ts[0]).name, .slice T1 (defVa ts[0]).labels.length U1, .slice T2 (defVa ts[0]).args.length U2] 27)).frozen? ⟨w.heap.size + 1, 0, none⟩ = false := r2.free 0; have d1 : (w1.alloc (.cells #[.int .i64 (defVa ts[0]).kind, .int .i64 (defVa ts[0]).num, .string (defVa ts[0]).name, .slice T1 (defVa ts[0]).labels.length U1, .slice T2 (defVa ts[0]).args.length U2] 27)).cell? ⟨w.heap.size + 1, 1, none⟩ = some (.int .i64 0) := r2.cell 1; have e1 : (w1.alloc (.cells #[.int .i64 (defVa ts[0]).kind, .int .i64 (defVa ts[0]).num, .string (defVa ts[0]).name, .slice T1 (defVa ts[0]).labels.length U1, .slice T2 (defVa ts[0]).args.length U2] 27)).frozen? ⟨w.heap.size + 1, 1, none⟩ = false := r2.free 1; have d2 : (w1.alloc (.cells #[.int .i64 (defVa ts[0]).kind, .int .i64 (defVa ts[0]).num, .string (defVa ts[0]).name, .slice T1 (defVa ts[0]).labels.length U1, .slice T2 (defVa ts[0]).args.length U2] 27)).cell? ⟨w.heap.size + 1, 2, none⟩ = some (.string ⟨#[]⟩) := r2.cell 2; have e2 : (w1.alloc (.cells #[.int .i64 (defVa ts[0]).kind, .int .i64 (defVa ts[0]).num, .string (defVa ts[0]).name, .slice T1 (defVa ts[0]).labels.length U1, .slice T2 (defVa ts[0]).args.length U2] 27)).frozen? ⟨w.heap.size + 1, 2, none⟩ = false := r2.free 2; have d3 : (w1.alloc (.cells #[.int .i64 (defVa ts[0]).kind, .int .i64 (defVa ts[0]).num, .string (defVa ts[0]).name, .slice T1 (defVa ts[0]).labels.length U1, .slice T2 (defVa ts[0]).args.length U2] 27)).cell? ⟨w.heap.size + 1, 3, none⟩ = some (.slice none 0 0) := r2.cell 3; have e3 : (w1.alloc (.cells #[.int .i64 (defVa ts[0]).kind, .int .i64 (defVa ts[0]).num, .string (defVa ts[0]).name, .slice T1 (defVa ts[0]).labels.length U1, .slice T2 (defVa ts[0]).args.length U2] 27)).frozen? ⟨w.heap.size + 1, 3, none⟩ = false := r2.free 3; have d4 : (w1.alloc (.cells #[.int .i64 (defVa ts[0]).kind, .int .i64 (defVa ts[0]).num, .string (defVa ts[0]).name, .slice T1 (defVa ts[0]).labels.length U1, .slice T2 (defVa ts[0]).args.length U2] 27)).cell? ⟨w.heap.size + 1, 4, none⟩ = some (.slice none 0 0) := r2.cell 4; have e4 : (w1.alloc (.cells #[.int .i64 (defVa ts[0]).kind, .int .i64 (defVa ts[0]).num, .string (defVa ts[0]).name, .slice T1 (defVa ts[0]).labels.length U1, .slice T2 (defVa ts[0]).args.length U2] 27)).frozen? ⟨w.heap.size + 1, 4, none⟩ = false := r2.free 4; have hbS := ((((((Below.refl (w.heap.size + 1) (w1.alloc (.cells #[.int .i64 (defVa ts[0]).kind, .int .i64 (defVa ts[0]).num, .string (defVa ts[0]).name, .slice T1 (defVa ts[0]).labels.length U1, .slice T2 (defVa ts[0]).args.length U2] 27))).setCell (p := ⟨w.heap.size + 1, 0, none⟩) (Nat.le_refl _) (.int .i64 4)).setCell (p := ⟨w.heap.size + 1, 1, none⟩) (Nat.le_refl _) (.int .i64 0)).setCell (p := ⟨w.heap.size + 1, 2, none⟩) (Nat.le_refl _) (.string ls[0])).setCell (p := ⟨w.heap.size + 1, 3, none⟩) (Nat.le_refl _) (.slice none 0 0)).setCell (p := ⟨w.heap.size + 1, 4, none⟩) (Nat.le_refl _) (.slice (some ⟨w1.heap.size, 0, none⟩) 1 1)); have s0 := (hbS.cell (p := ⟨w.heap.size, 1, none⟩) (Nat.lt_succ_self _)).trans m0; have s1 := (hbS.cell (p := ⟨w.heap.size, 2, none⟩) (Nat.lt_succ_self _)).trans m1; have s2 := (hbS.cell (p := ⟨b, off, none⟩) (Nat.lt_succ_of_lt hbw1)).trans m2; have s3 := (hbS.cell (p := ⟨b', off', none⟩) (Nat.lt_succ_of_lt hbw1')).trans m3; have s4 := (hbS.cell (p := ⟨b', off' + 1, none⟩) (Nat.lt_succ_of_lt hbw1')).trans m4; have s5 := (hbS.cell (p := ⟨b', off' + 2, none⟩) (Nat.lt_succ_of_lt hbw1')).trans m5))
  have HB1 := Lib.hid hb1'
  go_wp2
  refine bodyPost_ret (v := .agg #[.int .i64 4, .int .i64 0, .string ls[0], .slice none 0 0, .slice (some ⟨w1.heap.size, 0, none⟩) 1 1]) (by simp [results, Tryd.results51, go_sem, d0, d1, d2, d3, d4]) rfl ⟨_, rfl, ?_, ?_⟩
  · have hS : ((((((w1.alloc (.cells #[.int .i64 (defVa ts[0]).kind, .int .i64 (defVa ts[0]).num, .string (defVa ts[0]).name, .slice T1 (defVa ts[0]).labels.length U1, .slice T2 (defVa ts[0]).args.length U2] 27)).setCell ⟨w.heap.size + 1, 0, none⟩ (.int .i64 4)).setCell ⟨w.heap.size + 1, 1, none⟩ (.int .i64 0)).setCell ⟨w.heap.size + 1, 2, none⟩ (.string ls[0])).setCell ⟨w.heap.size + 1, 3, none⟩ (.slice none 0 0)).setCell ⟨w.heap.size + 1, 4, none⟩ (.slice (some ⟨w1.heap.size, 0, none⟩) 1 1)).heap.size = (w1.alloc (.cells #[.int .i64 (defVa ts[0]).kind, .int .i64 (defVa ts[0]).num, .string (defVa ts[0]).name, .slice T1 (defVa ts[0]).labels.length U1, .slice T2 (defVa ts[0]).args.length U2] 27)).heap.size := by simp [World.setCell]
    have hk' : ∀ q, q ≠ w.heap.size + 1 → ((((((w1.alloc (.cells #[.int .i64 (defVa ts[0]).kind, .int .i64 (defVa ts[0]).num, .string (defVa ts[0]).name, .slice T1 (defVa ts[0]).labels.length U1, .slice T2 (defVa ts[0]).args.length U2] 27)).setCell ⟨w.heap.size + 1, 0, none⟩ (.int .i64 4)).setCell ⟨w.heap.size + 1, 1, none⟩ (.int .i64 0)).setCell ⟨w.heap.size + 1, 2, none⟩ (.string ls[0])).setCell ⟨w.heap.size + 1, 3, none⟩ (.slice none 0 0)).setCell ⟨w.heap.size + 1, 4, none⟩ (.slice (some ⟨w1.heap.size, 0, none⟩) 1 1)).heap[q]? = (w1.alloc (.cells #[.int .i64 (defVa ts[0]).kind, .int .i64 (defVa ts[0]).num, .string (defVa ts[0]).name, .slice T1 (defVa ts[0]).labels.length U1, .slice T2 (defVa ts[0]).args.length U2] 27)).heap[q]? := fun q hq => by
      rw [Below.heap_setCell _ _ _ _ hq, Below.heap_setCell _ _ _ _ hq, Below.heap_setCell _ _ _ _ hq, Below.heap_setCell _ _ _ _ hq, Below.heap_setCell _ _ _ _ hq]
    have hzz := HZ.out
    have hg := VGather.done (ts := [defVa ts[0]]) (A := some ⟨w1.heap.size, 0, none⟩) (c := 1) (vgather_one (base := w0.heap.size) (Nat.le_refl _) (by have := hb1'.size; omega) (HT1.out : VaIn w1 (Span w0.heap.size w1.heap.size) _ _)) (by simp [maxLen])
    have hD2 := hg.keep (w' := ((((((w1.alloc (.cells #[.int .i64 (defVa ts[0]).kind, .int .i64 (defVa ts[0]).num, .string (defVa ts[0]).name, .slice T1 (defVa ts[0]).labels.length U1, .slice T2 (defVa ts[0]).args.length U2] 27)).setCell ⟨w.heap.size + 1, 0, none⟩ (.int .i64 4)).setCell ⟨w.heap.size + 1, 1, none⟩ (.int .i64 0)).setCell ⟨w.heap.size + 1, 2, none⟩ (.string ls[0])).setCell ⟨w.heap.size + 1, 3, none⟩ (.slice none 0 0)).setCell ⟨w.heap.size + 1, 4, none⟩ (.slice (some ⟨w1.heap.size, 0, none⟩) 1 1))) fun b hb' _ => hk' b (by have := hb'.1; omega)
    have hA := hbA.size
    exact VaIn.of (t := .mk 4 0 ls[0] [] [defVa ts[0]]) (gl := 0) (S := Span w.heap.size ((((((w1.alloc (.cells #[.int .i64 (defVa ts[0]).kind, .int .i64 (defVa ts[0]).num, .string (defVa ts[0]).name, .slice T1 (defVa ts[0]).labels.length U1, .slice T2 (defVa ts[0]).args.length U2] 27)).setCell ⟨w.heap.size + 1, 0, none⟩ (.int .i64 4)).setCell ⟨w.heap.size + 1, 1, none⟩ (.int .i64 0)).setCell ⟨w.heap.size + 1, 2, none⟩ (.string ls[0])).setCell ⟨w.heap.size + 1, 3, none⟩ (.slice none 0 0)).setCell ⟨w.heap.size + 1, 4, none⟩ (.slice (some ⟨w1.heap.size, 0, none⟩) 1 1)).heap.size) (HN.out 0 h0l) (Nat.zero_le _) (fun i h => absurd h (by simp [Va.labels])) (.inl rfl) hD2 fun b hb' => ⟨⟨by have := hb'.1; omega, by rw [hS]; exact hb'.2⟩, by have := hb'.1; omega⟩
  · exact (((((hb0.trans (hbA.mono hb0.size)).setCell (by simp) _).setCell (by simp) _).setCell (by simp) _).setCell (by simp) _).setCell (by simp) _

set_option maxHeartbeats 1000000 in
theorem specDef_of (k0 : Int) (ls : List ByteArray) (ts : List Ty) (hall : ∀ i, (h : i < ts.length) → DefOne 51 ts[i]) : DefOne 51 (.mk k0 ls ts) := by
  intro v w hv hf hsz
  have hse := szTy_eq (.mk k0 ls ts)
  obtain ⟨L, lc, A, ac, rfl, hn, hz, hl, ha⟩ := hv.open
  simp only [Ty.kind, Ty.labels, Ty.args] at *
  obtain ⟨hnode, hf2⟩ := formTy_mk _ _ _ hf
  have hsub : ∀ i, (h : i < ts.length) → ∀ (v : Value) (W : World), TyAt W W.heap.size v ts[i] → Calls Tryd.prog 51 #[v] W (NewVa W (defVa ts[i])) := fun i h v W h2 => hall i h v W h2 (hf2 i h) (by have := szTy_part ts i h; omega)
  rcases nodeB_kind _ _ _ hnode with (rfl | rfl) | ⟨rfl | rfl, hlen, hpos⟩ | ⟨rfl, _⟩
  · rw [defVa_1]
    exact specDef_1 ls ts L A lc ac w
  · rw [defVa_2]
    exact specDef_2 ls ts L A lc ac w
  · rw [defVa_3]
    exact specDef_3 ls ts L A lc ac w hl hn (by omega) hz ha (by omega) hsub
  · have h0l : 0 < ls.length := by omega
    have h0t : 0 < ts.length := by omega
    rw [defVa_4]
    have e1 : ls.headD ⟨#[]⟩ = ls[0] := by
      cases ls with
      | nil => simp at h0l
      | cons a r => rfl
    have e2 : defHead ts = [defVa ts[0]] := by
      cases ts with
      | nil => simp at h0t
      | cons a r => rw [defHead]; rfl
    rw [e1, e2]
    exact specDef_4 ls ts L A lc ac w hl hz ha h0l h0t (hsub 0 h0t)
  · rw [defVa_5]
    exact specDef_5 ls ts L A lc ac w

theorem specDef_any (t : Ty) : DefOne 51 t := by
  induction t using Ty.ind with
  | h k ls ts ih => exact specDef_of k ls ts ih

/-- The default, or the zero value. -/
def defB (t : Ty) : Va := if validB t then defVa t else .mk 0 0 ⟨#[]⟩ [] []

set_option maxHeartbeats 1000000 in
theorem specDefault_any (t : Ty) (v : Value) (w : World) (hv : TyAt w w.heap.size v t) (hsz : szTy t ≤ 1048576) : Calls Tryd.prog 20 #[v] w (NewVa w (defB t)) := by
  have hv0 := hv
  have HV := Lib.hid (fun V W h => specValid_any t V W h hsz)
  have HD := Lib.hid (fun V W h hf => specDef_any t V W h hf hsz)
  obtain ⟨L, lc, A, ac, rfl, _⟩ := hv.open
  obtain ⟨hb0, p0, r0, hs0⟩ := boxes2 w 30 27 #[.int .i64 t.kind, .slice L t.labels.length lc, .slice A t.args.length ac] #[.int .i64 0, .int .i64 0, .string ⟨#[]⟩, .slice none 0 0, .slice none 0 0]
  have hv1 := hv0.up hb0
  clear hv hv0
  go_enter Tryd.func20, Tryd.ntmps20
  go_wp2_with fail
  generalize (w.alloc (.cells #[.int .i64 t.kind, .slice L t.labels.length lc, .slice A t.args.length ac] 30)).alloc (.cells #[.int .i64 0, .int .i64 0, .string ⟨#[]⟩, .slice none 0 0, .slice none 0 0] 27) = w0 at *
  refine (HV.out _ w0 hv1).mono ?_
  rintro e w1 ⟨rfl, hb1⟩
  have hb1' := hb0.trans (hb1.mono hb0.size)
  have r1 := r0.below hb1 r0.lt
  cases hvb : validB t
  · have hr := Lib.hid (show defB t = .mk 0 0 ⟨#[]⟩ [] [] by unfold defB; rw [hvb]; rfl)
    have d0 : w1.cell? ⟨w.heap.size + 1, 0, none⟩ = some (.int .i64 0) := r1.cell 0
    have e0 : w1.frozen? ⟨w.heap.size + 1, 0, none⟩ = false := r1.free 0
    have d1 : w1.cell? ⟨w.heap.size + 1, 1, none⟩ = some (.int .i64 0) := r1.cell 1
    have e1 : w1.frozen? ⟨w.heap.size + 1, 1, none⟩ = false := r1.free 1
    have d2 : w1.cell? ⟨w.heap.size + 1, 2, none⟩ = some (.string ⟨#[]⟩) := r1.cell 2
    have e2 : w1.frozen? ⟨w.heap.size + 1, 2, none⟩ = false := r1.free 2
    have d3 : w1.cell? ⟨w.heap.size + 1, 3, none⟩ = some (.slice none 0 0) := r1.cell 3
    have e3 : w1.frozen? ⟨w.heap.size + 1, 3, none⟩ = false := r1.free 3
    have d4 : w1.cell? ⟨w.heap.size + 1, 4, none⟩ = some (.slice none 0 0) := r1.cell 4
    have e4 : w1.frozen? ⟨w.heap.size + 1, 4, none⟩ = false := r1.free 4
    clear p0 r0 r1 hs0 hvb
    go_wp2
    refine bodyPost_ret (v := .agg #[.int .i64 0, .int .i64 0, .string ⟨#[]⟩, .slice none 0 0, .slice none 0 0]) (by simp [results, Tryd.results20, go_sem, d0, d1, d2, d3, d4]) rfl ⟨_, rfl, ?_, ?_⟩
    · rw [hr.out]
      exact VaIn.leaf _ _ _ _ _ _ _ _ _ (by simp [ByteArray.size])
    · exact ((((hb1'.setCell (by simp) _).setCell (by simp) _).setCell (by simp) _).setCell (by simp) _).setCell (by simp) _
  · have hr := Lib.hid (show defB t = defVa t by unfold defB; rw [hvb]; rfl)
    have hf : formTy t = true := by
      unfold validB at hvb
      simp only [Bool.and_eq_true] at hvb
      exact hvb.2
    have p1 := p0.below hb1 p0.lt
    have c0 : w1.cell? ⟨w.heap.size, 0, none⟩ = some (.int .i64 t.kind) := p1.cell 0
    have c1 : w1.cell? ⟨w.heap.size, 1, none⟩ = some (.slice L t.labels.length lc) := p1.cell 1
    have c2 : w1.cell? ⟨w.heap.size, 2, none⟩ = some (.slice A t.args.length ac) := p1.cell 2
    have HC := Lib.hid (HD.out _ w1 (hv1.up hb1) hf)
    have HZ := Lib.hid hs0
    have hs1 := hb1.size
    clear p0 r0 p1 hv1 hvb hf hs0
    go_wp2_with fail
    refine HC.out.mono ?_
    rintro e w2 ⟨v2, rfl, ht2, hb2⟩
    have HT2 := Lib.hid ht2
    obtain ⟨T1, U1, T2, U2, _, rfl, _⟩ := ht2.open
    have hb2' := hb1'.trans (hb2.mono hb1'.size)
    have r2 := r1.below hb2 r1.lt
    have d0 : w2.cell? ⟨w.heap.size + 1, 0, none⟩ = some (.int .i64 0) := r2.cell 0
    have e0 : w2.frozen? ⟨w.heap.size + 1, 0, none⟩ = false := r2.free 0
    have d1 : w2.cell? ⟨w.heap.size + 1, 1, none⟩ = some (.int .i64 0) := r2.cell 1
    have e1 : w2.frozen? ⟨w.heap.size + 1, 1, none⟩ = false := r2.free 1
    have d2 : w2.cell? ⟨w.heap.size + 1, 2, none⟩ = some (.string ⟨#[]⟩) := r2.cell 2
    have e2 : w2.frozen? ⟨w.heap.size + 1, 2, none⟩ = false := r2.free 2
    have d3 : w2.cell? ⟨w.heap.size + 1, 3, none⟩ = some (.slice none 0 0) := r2.cell 3
    have e3 : w2.frozen? ⟨w.heap.size + 1, 3, none⟩ = false := r2.free 3
    have d4 : w2.cell? ⟨w.heap.size + 1, 4, none⟩ = some (.slice none 0 0) := r2.cell 4
    have e4 : w2.frozen? ⟨w.heap.size + 1, 4, none⟩ = false := r2.free 4
    clear r1 r2 ht2 c0 c1 c2
    go_wp2
    refine bodyPost_ret (v := .agg #[.int .i64 (defVa t).kind, .int .i64 (defVa t).num, .string (defVa t).name, .slice T1 (defVa t).labels.length U1, .slice T2 (defVa t).args.length U2]) (by simp [results, Tryd.results20, go_sem, d0, d1, d2, d3, d4]) rfl ⟨_, rfl, ?_, ?_⟩
    · have hS : (((((w2.setCell ⟨w.heap.size + 1, 0, none⟩ (.int .i64 (defVa t).kind)).setCell ⟨w.heap.size + 1, 1, none⟩ (.int .i64 (defVa t).num)).setCell ⟨w.heap.size + 1, 2, none⟩ (.string (defVa t).name)).setCell ⟨w.heap.size + 1, 3, none⟩ (.slice T1 (defVa t).labels.length U1)).setCell ⟨w.heap.size + 1, 4, none⟩ (.slice T2 (defVa t).args.length U2)).heap.size = w2.heap.size := by simp [World.setCell]
      rw [hS, hr.out]
      have hzz := HZ.out
      refine (HT2.out.keep fun b hb' _ => ?_).wide fun b hb' => ⟨by have := hb'.1; omega, hb'.2⟩
      have hq : b ≠ w.heap.size + 1 := by have := hb'.1; omega
      rw [Below.heap_setCell _ _ _ _ hq, Below.heap_setCell _ _ _ _ hq, Below.heap_setCell _ _ _ _ hq, Below.heap_setCell _ _ _ _ hq, Below.heap_setCell _ _ _ _ hq]
    · exact ((((hb2'.setCell (by simp) _).setCell (by simp) _).setCell (by simp) _).setCell (by simp) _).setCell (by simp) _

end Go.Proofs.YtlmbnefoobameaaDoor
end

section
namespace Go.Proofs.YtlmbnefoobameaaDoor
open Go.RowKit

theorem hasZip_at : ∀ (vs : List Va) (ts : List Ty), hasZip vs ts = true → ∀ i, (h1 : i < vs.length) → (h2 : i < ts.length) → hasB vs[i] ts[i] = true := by
  intro vs ts h i h1 h2
  cases hb : hasB vs[i] ts[i] with
  | true => rfl
  | false => rw [hasZip_no vs ts i h1 h2 hb] at h; cases h
theorem formVas_at' : ∀ (ts : List Va), formVas ts = true → ∀ i, (h : i < ts.length) → formVa ts[i] = true
  | t :: r, h, 0, _ => by
    rw [formVas, Bool.and_eq_true] at h
    exact h.1
  | t :: r, h, i + 1, hi => by
    rw [formVas, Bool.and_eq_true] at h
    exact formVas_at' r h.2 i (by simpa using hi)
theorem formTys_at' : ∀ (ts : List Ty), formTys ts = true → ∀ i, (h : i < ts.length) → formTy ts[i] = true
  | t :: r, h, 0, _ => by
    rw [formTys, Bool.and_eq_true] at h
    exact h.1
  | t :: r, h, i + 1, hi => by
    rw [formTys, Bool.and_eq_true] at h
    exact formTys_at' r h.2 i (by simpa using hi)
theorem sizeVas_at : ∀ (ts : List Va) (i : Nat) (h : i < ts.length), sizeVa ts[i] ≤ sizeVas ts
  | t :: r, 0, _ => by
    rw [sizeVas]
    exact Nat.le_add_right _ _
  | t :: r, i + 1, h => by
    have := sizeVas_at r i (by simpa using h)
    rw [sizeVas]
    simp only [List.getElem_cons_succ]
    omega
theorem sizeTys_at : ∀ (ts : List Ty) (i : Nat) (h : i < ts.length), sizeTy ts[i] ≤ sizeTys ts
  | t :: r, 0, _ => by
    rw [sizeTys]
    exact Nat.le_add_right _ _
  | t :: r, i + 1, h => by
    have := sizeTys_at r i (by simpa using h)
    rw [sizeTys]
    simp only [List.getElem_cons_succ]
    omega
theorem depthTys_at : ∀ (ts : List Ty) (i : Nat) (h : i < ts.length), depthTy ts[i] ≤ depthTys ts
  | t :: r, 0, _ => by
    rw [depthTys]
    exact Nat.le_max_left _ _
  | t :: r, i + 1, h => by
    have := depthTys_at r i (by simpa using h)
    rw [depthTys]
    simp only [List.getElem_cons_succ]
    omega
/-- What has a type is a value, and the type is valid. -/
theorem hasTypeB_parts {v : Va} {t : Ty} (h : hasTypeB v t = true) : valueB v = true ∧ validB t = true ∧ hasB v t = true := by
  unfold hasTypeB at h
  simp only [Bool.and_eq_true] at h
  exact ⟨h.1.1, h.1.2, h.2⟩
/-- A record of a type: its parts have the types of the type's parts. -/
theorem hasTypeB_rec {v : Va} {t : Ty} (h : hasTypeB v t = true) (hk : t.kind = 3) : v.args.length = t.args.length ∧ ∀ i, (h1 : i < v.args.length) → (h2 : i < t.args.length) → hasTypeB v.args[i] t.args[i] = true := by
  obtain ⟨hv, ht, hh⟩ := hasTypeB_parts h
  cases v with
  | mk k n nm ls vs =>
    cases t with
    | mk k2 ls2 ts =>
      have hk2 : k2 = 3 := hk
      subst hk2
      rw [hasB] at hh
      rw [show Ty.kind (.mk 3 ls2 ts) = 3 from rfl, show Ty.labels (.mk 3 ls2 ts) = ls2 from rfl, show Ty.args (.mk 3 ls2 ts) = ts from rfl, if_neg (by decide), if_neg (by decide), if_pos rfl] at hh
      simp only [Bool.and_eq_true, decide_eq_true_eq] at hh
      obtain ⟨⟨hk3, hl⟩, hz⟩ := hh
      subst hk3
      have hll : ls = ls2 := by
        unfold textsB at hl
        simpa using hl
      subst hll
      unfold valueB at hv
      unfold validB at ht
      simp only [Bool.and_eq_true, decide_eq_true_eq] at hv ht
      have hfv := hv.2
      have hft := ht.2
      rw [formVa, Bool.and_eq_true] at hfv
      rw [formTy, Bool.and_eq_true] at hft
      have hnv := hfv.2
      have hnt := hft.2
      unfold nodeVB at hnv
      unfold nodeB at hnt
      rw [if_neg (by decide), if_neg (by decide), if_pos rfl] at hnv
      rw [if_neg (by decide), if_pos (by decide)] at hnt
      simp only [Bool.and_eq_true, decide_eq_true_eq] at hnv hnt
      have hlen : vs.length = ts.length := by omega
      refine ⟨hlen, fun i h1 h2 => ?_⟩
      simp only [Va.args, Ty.args] at h1 h2 ⊢
      have s1 := sizeVas_at vs i h1
      have s2 := sizeTys_at ts i h2
      have s3 := depthTys_at ts i h2
      have e1 := hv.1
      have e2 := ht.1
      rw [sizeVa] at e1
      rw [sizeTy, depthTy] at e2
      unfold hasTypeB valueB validB
      simp only [Bool.and_eq_true, decide_eq_true_eq]
      exact ⟨⟨⟨by omega, formVas_at' vs hfv.1 i h1⟩, ⟨by omega, by omega⟩, formTys_at' ts hft.1 i h2⟩, hasZip_at vs ts hz i h1 h2⟩

theorem nodeB_kinds {k : Int} {ls : List ByteArray} {m : Nat} (h : nodeB k ls m = true) : ((k = 1 ∨ k = 2) ∧ m = 0) ∨ ((k = 3 ∨ k = 4) ∧ m = ls.length ∧ labelsB ls = true) ∨ (k = 5 ∧ m = 1) := by
  unfold nodeB at h
  split at h
  · simp only [Bool.and_eq_true, decide_eq_true_eq] at h
    exact .inl ⟨by assumption, h.2⟩
  · split at h
    · simp only [Bool.and_eq_true, decide_eq_true_eq] at h
      exact .inr (.inl ⟨by assumption, h.1, h.2⟩)
    · split at h
      · simp only [Bool.and_eq_true, decide_eq_true_eq] at h
        exact .inr (.inr ⟨by assumption, h.2⟩)
      · cases h
theorem labelsB_cons {ls : List ByteArray} (h : labelsB ls = true) : ∃ a r, ls = a :: r ∧ isNameB a = true := by
  unfold labelsB at h
  simp only [Bool.and_eq_true, List.all_eq_true, decide_eq_true_eq] at h
  cases ls with
  | nil => simp at h
  | cons a r => exact ⟨a, r, rfl, h.1.1 a (by simp)⟩
theorem idx_head (a : ByteArray) (r : List ByteArray) : idxOf (a :: r) a = 0 := idxOf_at (a :: r) a 0 (by simp) rfl (fun j _ h => absurd h (by omega))
theorem emptyS0 : (⟨#[]⟩ : ByteArray).size = 0 := rfl
/-- All that is asked of the default of a type. -/
theorem defVa_all (t : Ty) : formTy t = true → formVa (defVa t) = true ∧ sizeVa (defVa t) ≤ sizeTy t ∧ szVa (defVa t) ≤ szTy t ∧ smallB (defVa t) = true ∧ hasB (defVa t) t = true := by
  induction t using Ty.ind with
  | h k ls ts ih =>
    intro hf
    rw [formTy, Bool.and_eq_true] at hf
    have hall : ∀ i, (h : i < ts.length) → formVa (defVa ts[i]) = true ∧ sizeVa (defVa ts[i]) ≤ sizeTy ts[i] ∧ szVa (defVa ts[i]) ≤ szTy ts[i] ∧ smallB (defVa ts[i]) = true ∧ hasB (defVa ts[i]) ts[i] = true := fun i hi => ih i hi (formTys_at' ts hf.1 i hi)
    rcases nodeB_kinds hf.2 with ⟨hk | hk, hm⟩ | ⟨hk | hk, hm, hl⟩ | ⟨hk, hm⟩
    · subst hk
      obtain rfl : ts = [] := List.eq_nil_of_length_eq_zero hm
      rw [defVa_1]
      simp [formVa, formVas, nodeVB, sizeVa, sizeVas, sizeTy, sizeTys, szVa, szVas, smallB, smallBs, hasB, Ty.kind, emptyS0, sumSizes]
    · subst hk
      obtain rfl : ts = [] := List.eq_nil_of_length_eq_zero hm
      rw [defVa_2]
      simp [formVa, formVas, nodeVB, sizeVa, sizeVas, sizeTy, sizeTys, szVa, szVas, smallB, smallBs, hasB, Ty.kind, emptyS0, sumSizes]
    · subst hk
      rw [defVa_3]
      have hd : ∀ (us : List Ty), (∀ i, (h : i < us.length) → formVa (defVa us[i]) = true ∧ sizeVa (defVa us[i]) ≤ sizeTy us[i] ∧ szVa (defVa us[i]) ≤ szTy us[i] ∧ smallB (defVa us[i]) = true ∧ hasB (defVa us[i]) us[i] = true) →
          formVas (defVas us) = true ∧ sizeVas (defVas us) ≤ sizeTys us ∧ szVas (defVas us) ≤ szTys us ∧ smallBs (defVas us) = true ∧ hasZip (defVas us) us = true := by
        intro us
        induction us with
        | nil => intro _; simp [defVas, formVas, sizeVas, sizeTys, szVas, szTys, smallBs, hasZip]
        | cons u r ihr =>
          intro hu
          obtain ⟨a1, a2, a3, a4, a5⟩ := hu 0 (by simp)
          obtain ⟨b1, b2, b3, b4, b5⟩ := ihr fun i hi => hu (i + 1) (by simpa using hi)
          simp only [List.getElem_cons_zero] at a1 a2 a3 a4 a5
          rw [defVas]
          refine ⟨?_, ?_, ?_, ?_, ?_⟩
          · rw [formVas, a1, b1]; rfl
          · rw [sizeVas, sizeTys]; omega
          · rw [szVas, szTys]; omega
          · rw [smallBs, a4, b4]; rfl
          · rw [hasZip, a5, b5]; rfl
      obtain ⟨a1, a2, a3, a4, a5⟩ := hd ts hall
      refine ⟨?_, ?_, ?_, ?_, ?_⟩
      · rw [formVa, a1, defVas_len]
        unfold nodeVB
        rw [if_neg (by decide), if_neg (by decide), if_pos rfl, hl, decide_eq_true hm, decide_eq_true emptyS0]
        rfl
      · rw [sizeVa, sizeTy]; omega
      · rw [szVa, szTy, emptyS0]; omega
      · rw [smallB, a4]; rfl
      · rw [hasB]
        rw [show Ty.kind (.mk 3 ls ts) = 3 from rfl, show Ty.labels (.mk 3 ls ts) = ls from rfl, show Ty.args (.mk 3 ls ts) = ts from rfl, if_neg (by decide), if_neg (by decide), if_pos rfl, a5]
        unfold textsB
        simp
    · subst hk
      obtain ⟨a, r, rfl, hn⟩ := labelsB_cons hl
      obtain ⟨u, us, rfl⟩ : ∃ u us, ts = u :: us := by
        cases ts with
        | nil => simp at hm
        | cons u us => exact ⟨u, us, rfl⟩
      obtain ⟨a1, a2, a3, a4, a5⟩ := hall 0 (by simp)
      simp only [List.getElem_cons_zero] at a1 a2 a3 a4 a5
      rw [defVa_4, defHead]
      simp only [List.headD_cons]
      refine ⟨?_, ?_, ?_, ?_, ?_⟩
      · rw [formVa, formVas, formVas, a1]
        unfold nodeVB
        rw [if_neg (by decide), if_neg (by decide), if_neg (by decide), if_pos rfl, hn]
        rfl
      · rw [sizeVa, sizeVas, sizeVas, sizeTy, sizeTys]; omega
      · rw [szVa, szVas, szVas, szTy, szTys]
        simp [sumSizes]
        omega
      · rw [smallB, smallBs, smallBs, a4]; rfl
      · rw [hasB]
        rw [show Ty.kind (.mk 4 (a :: r) (u :: us)) = 4 from rfl, show Ty.labels (.mk 4 (a :: r) (u :: us)) = a :: r from rfl, show Ty.args (.mk 4 (a :: r) (u :: us)) = u :: us from rfl, if_neg (by decide), if_neg (by decide), if_neg (by decide), if_pos rfl, idx_head]
        simp only [Int.toNat_zero, List.getElem?_cons_zero, hasHead, a5]
        rfl
    · subst hk
      rw [defVa_5]
      simp [formVa, formVas, nodeVB, sizeVa, sizeVas, sizeTy, szVa, szVas, smallB, smallBs, hasB, hasEach, Ty.kind, emptyS0, sumSizes]
/-- The default of a valid type has it. -/
theorem def_has {t : Ty} (h : validB t = true) : hasTypeB (defVa t) t = true := by
  have h0 := h
  unfold validB at h
  simp only [Bool.and_eq_true, decide_eq_true_eq] at h
  obtain ⟨a1, a2, _, _, a5⟩ := defVa_all t h.2
  unfold hasTypeB valueB
  rw [h0, a1, a5, decide_eq_true (show sizeVa (defVa t) ≤ 300 by omega)]
  rfl
theorem defB_has {t : Ty} (h : validB t = true) : hasTypeB (defB t) t = true := by
  unfold defB
  rw [h, if_pos rfl]
  exact def_has h
theorem defB_small (t : Ty) : smallB (defB t) = true ∧ szVa (defB t) ≤ szTy t := by
  unfold defB
  split
  · rename_i h
    unfold validB at h
    simp only [Bool.and_eq_true, decide_eq_true_eq] at h
    obtain ⟨_, _, a3, a4, _⟩ := defVa_all t h.2
    exact ⟨a4, a3⟩
  · exact ⟨rfl, Nat.zero_le _⟩

end Go.Proofs.YtlmbnefoobameaaDoor
end
