/- impl.hasForms. -/
import Derived.Test.YtmacbkcjeamaeaaForm2
import Derived.LaidEql
namespace Go.Proofs.Ytmacbkcjeamaeaa
set_option maxRecDepth 100000
open Go.RowKit

def PartsPost (w : World) (ts : List Ty) (e : Ending) (w' : World) : Prop := ∃ A c, e = .returned (.slice A ts.length c) ∧ TysAt w' w'.heap.size A ts ∧ Below w.heap.size w w'

theorem parts_int (w : World) : Calls Try.prog 133 #[.agg #[]] w (PartsPost w []) := by
  go_enter Try.func133, Try.ntmps133
  go_wp2
  go_ret
  exact ⟨none, 0, rfl, ⟨by simp, fun _ => .bool false, fun i hi => absurd hi (by simp), fun i hi => absurd hi (by simp)⟩, (Below.refl _ _).alloc (Nat.le_refl _) _⟩
theorem parts_bool (w : World) : Calls Try.prog 134 #[.agg #[]] w (PartsPost w []) := by
  go_enter Try.func134, Try.ntmps134
  go_wp2
  go_ret
  exact ⟨none, 0, rfl, ⟨by simp, fun _ => .bool false, fun i hi => absurd hi (by simp), fun i hi => absurd hi (by simp)⟩, (Below.refl _ _).alloc (Nat.le_refl _) _⟩
theorem parts_rec (w : World) (L A : Option Addr) (n lc ac : Nat) (ts : List Ty) (ha : TysAt w w.heap.size A ts) : Calls Try.prog 131 #[.agg #[.slice L n lc, .slice A ts.length ac]] w (PartsPost w ts) := by
  have hb := (Below.refl w.heap.size w).alloc (Nat.le_refl _) (.cells #[.slice L n lc, .slice A ts.length ac] 82)
  have ha1 := Lib.hid (ha.up hb)
  clear ha
  go_enter Try.func131, Try.ntmps131
  go_wp2
  go_ret
  exact ⟨A, ac, rfl, ha1.out, hb⟩
theorem parts_sum (w : World) (L A : Option Addr) (n lc ac : Nat) (ts : List Ty) (ha : TysAt w w.heap.size A ts) : Calls Try.prog 132 #[.agg #[.slice L n lc, .slice A ts.length ac]] w (PartsPost w ts) := by
  have hb := (Below.refl w.heap.size w).alloc (Nat.le_refl _) (.cells #[.slice L n lc, .slice A ts.length ac] 84)
  have ha1 := Lib.hid (ha.up hb)
  clear ha
  go_enter Try.func132, Try.ntmps132
  go_wp2
  go_ret
  exact ⟨A, ac, rfl, ha1.out, hb⟩
theorem parts_list (w : World) (t : Ty) (a b c : Value) (ht : TyAt w w.heap.size (.agg #[a, b, c]) t) : Calls Try.prog 135 #[.agg #[a, b, c]] w (PartsPost w [t]) := by
  obtain ⟨L, lc, A, ac, hv, _⟩ := ht.open
  simp at hv
  obtain ⟨rfl, rfl, rfl⟩ := hv
  have hb := (Below.refl w.heap.size w).alloc (Nat.le_refl _) (.cells #[.int .i64 t.kind, .slice L t.labels.length lc, .slice A t.args.length ac] 98)
  have hb2 := hb.alloc hb.size (.cells #[.int .i64 t.kind, .slice L t.labels.length lc, .slice A t.args.length ac] 27)
  have hW := Whole1.new (w.alloc (.cells #[.int .i64 t.kind, .slice L t.labels.length lc, .slice A t.args.length ac] 98)) 27 #[.int .i64 t.kind, .slice L t.labels.length lc, .slice A t.args.length ac]
  have hs : (w.alloc (.cells #[.int .i64 t.kind, .slice L t.labels.length lc, .slice A t.args.length ac] 98)).heap.size = w.heap.size + 1 := by simp
  rw [hs] at hW
  have H1 := Lib.hid hW
  have H2 := Lib.hid (ht.up hb2)
  have H3 := Lib.hid hb2
  clear hb hb2 hW hs ht
  go_enter Try.func135, Try.ntmps135
  go_wp2
  go_ret
  refine ⟨some ⟨w.heap.size + 1, 0, none⟩, 1, rfl, ⟨by simp [maxLen], fun _ => .agg #[.int .i64 t.kind, .slice L t.labels.length lc, .slice A t.args.length ac], fun i hi => ⟨_, _, rfl, by simp, fun j hj => ?_⟩, fun i hi => ?_⟩, H3.out⟩
  · have hi0 : i = 0 := by simpa using hi
    subst hi0
    rw [Nat.zero_mul, Nat.add_zero, Nat.zero_add]
    refine (H1.out.cell j).trans ?_
    simp [partAt]
  · have hi0 : i = 0 := by simpa using hi
    subst hi0
    exact H2.out

theorem run_eql_iface_nil_right {P : Program} (w : World) {ti : TypeId} {ms : Array (String × TypeId)} (tp : TypeId) (v : Value) (hi : P.underlying ti = some (.interface ms)) :
    (binOp .eql ti (.iface tp v) .nilIface).run P w = .ok (.bool false) w := by
  have h : ∀ d : Nat, (Op.equalIn (d + 1) ti (.iface tp v) .nilIface).run P w = .ok false w := fun d => by simp [Op.equalIn, run_underlying hi]
  simp only [binOp]
  simp [Op.equal, Op.maxDepth, h 9999]

theorem meth_int (n : Nat) (v : Value) (w : World) : (method (n + 1) 94 v "loop.example/g00592/impl.parts").run Try.prog w = .ok (133, v) w := by kernel_rfl
theorem meth_bool (n : Nat) (v : Value) (w : World) : (method (n + 1) 95 v "loop.example/g00592/impl.parts").run Try.prog w = .ok (134, v) w := by kernel_rfl
theorem meth_rec (n : Nat) (v : Value) (w : World) : (method (n + 1) 82 v "loop.example/g00592/impl.parts").run Try.prog w = .ok (131, v) w := by kernel_rfl
theorem meth_sum (n : Nat) (v : Value) (w : World) : (method (n + 1) 84 v "loop.example/g00592/impl.parts").run Try.prog w = .ok (132, v) w := by kernel_rfl
theorem meth_list (n : Nat) (v : Value) (w : World) : (method (n + 1) 98 v "loop.example/g00592/impl.parts").run Try.prog w = .ok (135, v) w := by kernel_rfl

def EnterOf (fn : Nat) : Prop := ∀ args W, (callFunc fn args).run Try.prog W = .ok (.enter fn args) W

def HasOne (t : Ty) : Prop := ∀ (v : Value) (d : Nat) (w : World), TyAt w w.heap.size v t → szTy t ≤ 1048576 → d ≤ 100 → Calls Try.prog 65 #[v, .int .i64 (d : Int)] w (BoolIs (formTy t && decide (depthTy t ≤ d)) w)

theorem depthTys_no : ∀ (ts : List Ty) (i : Nat) (h : i < ts.length), depthTy ts[i] ≤ depthTys ts
  | [], i, h => absurd h (by simp)
  | t :: r, 0, _ => by
    rw [depthTys]
    exact Nat.le_max_left _ _
  | t :: r, i + 1, h => by
    rw [depthTys]
    exact Nat.le_trans (depthTys_no r i (by simpa using h)) (Nat.le_max_right _ _)
theorem depthTys_all : ∀ (ts : List Ty) (d : Nat), (∀ i, (h : i < ts.length) → depthTy ts[i] ≤ d) → depthTys ts ≤ d
  | [], d, _ => by rw [depthTys]; omega
  | t :: r, d, h => by
    rw [depthTys]
    have h1 : depthTy t ≤ d := h 0 (by simp)
    have h2 := depthTys_all r d fun i hi => h (i + 1) (by simpa using hi)
    omega

set_option maxHeartbeats 4000000 in
theorem hasForms_of (k0 : Int) (ls : List ByteArray) (ts : List Ty) (hall : ∀ i, (h : i < ts.length) → HasOne ts[i]) : HasOne (.mk k0 ls ts) := by
  intro v d w hv hsz hd100
  have hse := szTy_eq (.mk k0 ls ts)
  have hfe : formTy (.mk k0 ls ts) = (formTys ts && nodeB k0 ls ts.length) := by rw [formTy]
  have hde : depthTy (.mk k0 ls ts) = depthTys ts + 1 := by rw [depthTy]
  have hv0 := hv
  obtain ⟨L, lc, A, ac, rfl, hn, hz, hl, ha⟩ := hv.open
  simp only [Ty.kind, Ty.labels, Ty.args] at *
  have hm := ha.1
  have hnl : ls.length < maxLen := by unfold maxLen; omega
  unfold maxLen at hm hn
  have hsz2 : szTys ts ≤ 1048576 := by omega
  have HALL := Lib.hid hall
  have HFE := Lib.hid hfe
  have HDE := Lib.hid hde
  obtain ⟨hb0, p0, hs0⟩ := boxes1 w 27 #[.int .i64 k0, .slice L ls.length lc, .slice A ts.length ac]
  have ha0 := ha.up hb0
  have HV := Lib.hid (formOf_any k0 ls ts L A lc ac _ (hv0.up hb0) hnl)
  clear hall hv hv0 hz hl ha hfe hde hse hs0 hnl
  go_enter Try.func65, Try.ntmps65
  go_wp2_with fail
  generalize w.alloc (.cells #[.int .i64 k0, .slice L ls.length lc, .slice A ts.length ac] 27) = w0 at *
  refine HV.out.mono ?_
  rintro e w1 ⟨fv, rfl, hfv, hb1⟩
  have hb1' := hb0.trans (hb1.mono hb0.size)
  have ha1 := ha0.up hb1
  clear HV ha0 p0 hb0
  rcases hfv with ⟨hnode, rfl⟩ | ⟨hnode, hfv⟩
  · have hr := Lib.hid (show (formTy (.mk k0 ls ts) && decide (depthTy (.mk k0 ls ts) ≤ d)) = false by rw [HFE.out, hnode]; simp)
    clear hnode
    go_wp2
    go_ret
    exact ⟨by rw [hr.out]; rfl, hb1'⟩
  · have HNODE := Lib.hid hnode
    have hne : ∀ tp x W, (binOp .eql 79 (.iface tp x) .nilIface).run Try.prog W = .ok (.bool false) W := fun tp x W => run_eql_iface_nil_right W tp x Try.underlying79
    clear hnode
    have HP : ∃ (tp : TypeId) (x : Value) (fn : Nat), fv = .iface tp x ∧ (∀ n W, (method (n + 1) tp x "loop.example/g00592/impl.parts").run Try.prog W = .ok (fn, x) W) ∧ Calls Try.prog fn #[x] w1 (PartsPost w1 ts) ∧ EnterOf fn := by
      rcases hfv with ⟨rfl, hts, rfl⟩ | ⟨rfl, hts, rfl⟩ | ⟨rfl, rfl⟩ | ⟨rfl, rfl⟩ | ⟨rfl, a, b, c, t, hts, ht, rfl⟩
      · exact ⟨_, _, _, rfl, fun n W => meth_int n _ W, by rw [hts]; exact parts_int w1, enters_of Try.func133 (by kernel_rfl) rfl⟩
      · exact ⟨_, _, _, rfl, fun n W => meth_bool n _ W, by rw [hts]; exact parts_bool w1, enters_of Try.func134 (by kernel_rfl) rfl⟩
      · exact ⟨_, _, _, rfl, fun n W => meth_rec n _ W, parts_rec w1 L A _ lc ac ts ha1, enters_of Try.func131 (by kernel_rfl) rfl⟩
      · exact ⟨_, _, _, rfl, fun n W => meth_sum n _ W, parts_sum w1 L A _ lc ac ts ha1, enters_of Try.func132 (by kernel_rfl) rfl⟩
      · exact ⟨_, _, _, rfl, fun n W => meth_list n _ W, by rw [hts]; exact parts_list w1 t a b c (ht.up hb1), enters_of Try.func135 (by kernel_rfl) rfl⟩
    obtain ⟨tp, x, fn, rfl, hmeth, hparts, henter⟩ := HP
    have HPA := Lib.hid hparts
    unfold EnterOf at henter
    clear hfv hparts
    by_cases hd0 : d = 0
    · have hr := Lib.hid (show (formTy (.mk k0 ls ts) && decide (depthTy (.mk k0 ls ts) ≤ d)) = false by rw [HDE.out, hd0]; simp)
      have i0 : ((d : Int) == 0) = true := by rw [beq_iff_eq]; omega
      clear hd0
      go_wp2
      go_ret
      exact ⟨by rw [hr.out]; rfl, hb1'⟩
    · have i0 : ((d : Int) == 0) = false := by rw [beq_eq_false_iff_ne]; omega
      have HD0 := Lib.hid hd0
      clear hd0
      go_wp2_with fail
      refine HPA.out.mono ?_
      rintro e w2 ⟨A2, c2, rfl, ha2, hb2⟩
      have hb2' := hb1'.trans (hb2.mono hb1'.size)
      clear ha1 HPA hmeth henter hne
      go_wp2
      go_loopw [19] (fun i wr => ∃ k : Nat, k ≤ ts.length ∧ i = .int .i64 k ∧ (∀ j, (hj : j < ts.length) → j < k → formTy ts[j] = true ∧ depthTy ts[j] ≤ d - 1) ∧ Below w2.heap.size w2 wr) (fun i _ => ts.length - (intOf i).toNat)
      case atStart => exact ⟨0, Nat.zero_le _, rfl, fun j _ h => absurd h (by omega), Below.refl _ _⟩
      case round =>
        obtain ⟨k, hk, rfl, hall, hb⟩ := hrel
        have HA := Lib.hid hall
        clear hall
        have hbw := hb2'.trans (hb.mono hb2'.size)
        by_cases hlt : k < ts.length
        · obtain ⟨b, off, L1, lc1, A1, ac1, rfl, hbl, q0, q1, q2, _, _, _, _, ht⟩ := (ha2.below hb).elem k hlt
          have hpt := szTy_part ts k hlt
          have hbx := (Below.refl wr.heap.size wr).alloc (Nat.le_refl _) (.cells #[.int .i64 ts[k].kind, .slice L1 ts[k].labels.length lc1, .slice A1 ts[k].args.length ac1] 27)
          have hdI : ((d - 1 : Nat) : Int) = (d : Int) - 1 := by have := HD0.out; omega
          have HT := HALL.out k hlt _ (d - 1) _ ((ht.more hb.size).up hbx) (by omega) (by omega)
          rw [hdI] at HT
          cases hfk : formTy ts[k] && decide (depthTy ts[k] ≤ d - 1)
          · rw [hfk] at HT
            have HT' := Lib.hid HT
            have hr := Lib.hid (show (formTy (.mk k0 ls ts) && decide (depthTy (.mk k0 ls ts) ≤ d)) = false by
              have hd1 := HD0.out
              rw [Bool.and_eq_false_iff] at hfk
              rcases hfk with h | h
              · rw [HFE.out, formTys_no ts k hlt h]
                rfl
              · have h1 := depthTys_no ts k hlt
                have h2 : ¬ depthTy ts[k] ≤ d - 1 := by simpa using h
                rw [HDE.out, Bool.and_eq_false_iff]
                right
                simp
                omega)
            clear ht HT hfk hdI
            go_wp2_with fail
            refine HT'.out.mono ?_
            rintro e w3 ⟨rfl, hb3⟩
            go_wp2
            go_ret
            exact ⟨by rw [hr.out]; rfl, hbw.trans ((hbx.trans (hb3.mono (by simp))).mono hbw.size)⟩
          · rw [hfk] at HT
            have HT' := Lib.hid HT
            have HK := Lib.hid hfk
            clear ht HT hfk hdI
            go_wp2_with fail
            refine HT'.out.mono ?_
            rintro e w3 ⟨rfl, hb3⟩
            go_wp2
            go_roundw
            case rel =>
              refine ⟨k + 1, by omega, by go_num, fun j hj h => ?_, hb.trans ((hbx.trans (hb3.mono (by simp))).mono hb.size)⟩
              by_cases e : j = k
              · subst e
                have := HK.out
                simp at this
                exact this
              · exact HA.out j hj (by omega)
            case measure => simp [intOf]; omega
        · have hr := Lib.hid (show (formTy (.mk k0 ls ts) && decide (depthTy (.mk k0 ls ts) ≤ d)) = true by
            have h1 := formTys_all ts fun i hi => (HA.out i hi (by omega)).1
            have h2 := depthTys_all ts (d - 1) fun i hi => (HA.out i hi (by omega)).2
            have hd1 := HD0.out
            rw [HFE.out, HDE.out, h1, HNODE.out]
            simp
            omega)
          go_wp2
          go_ret
          exact ⟨by rw [hr.out]; rfl, hbw⟩

theorem hasForms_any (t : Ty) : HasOne t := by
  induction t using Ty.ind with
  | h k ls ts ih => exact hasForms_of k ls ts ih

end Go.Proofs.Ytmacbkcjeamaeaa
