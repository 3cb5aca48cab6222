/- Lemmas: ImplIsVal, ImplJoin. -/
import Derived.Test.YtceclhndagoddaaGreatDoorLawFnValueText_29
import Derived.Test.YtceclhndagoddaaGreatDoorLawFnValueText_6
import Derived.Test.YtceclhndagoddaaGreatDoorLawFnValueText_24
import Derived.Shelf.Strings.Builder1
import Derived.Test.YtceclhndagoddaaGreatDoorProg
import Derived.Test.YtceclhndagoddaaGreatDoorLawFnValueText_3
import Derived.Deep.DeepMust

section
namespace Go.Proofs.YtceclhndagoddaaGreatDoor
set_option maxRecDepth 100000
open Go.RowKit

/-- What is left of the nodes allowed; -1, if there are too many, or one has no form. -/
def leftForm (t : Va) (a : Int) : Int := if (sizeVa t : Int) ≤ a ∧ formVa t = true then a - sizeVa t else -1
theorem leftForm_zero (t : Va) : leftForm t 0 = -1 := by
  have := sizeVa_eq t
  unfold leftForm
  rw [if_neg (by omega)]
theorem leftForm_no (t : Va) (a : Int) (h : nodeVB t.kind t.num t.name t.labels t.args.length = false) : leftForm t a = -1 := by
  unfold leftForm
  rw [if_neg]
  rintro ⟨_, h2⟩
  rw [formVa_eq, h, Bool.and_false] at h2
  cases h2
theorem leftForm_part (t : Va) (a : Int) (k : Nat) (hk : k < t.args.length) (h : leftForm t.args[k] (a - 1 - (sizeVas (t.args.take k) : Int)) < 0) : leftForm t a = -1 := by
  have h1 := sizeVas_take t.args k hk
  have h2 := sizeVas_le t.args (k + 1)
  have h3 := sizeVa_eq t
  unfold leftForm at *
  rw [if_neg]
  rintro ⟨h4, h5⟩
  rw [formVa_eq, Bool.and_eq_true] at h5
  rw [if_pos ⟨by omega, formVas_at _ h5.1 k hk⟩] at h
  omega
theorem leftForm_next (t : Va) (a : Int) (k : Nat) (hk : k < t.args.length) (h : ¬ leftForm t.args[k] (a - 1 - (sizeVas (t.args.take k) : Int)) < 0) : leftForm t.args[k] (a - 1 - (sizeVas (t.args.take k) : Int)) = a - 1 - (sizeVas (t.args.take (k + 1)) : Int) ∧ formVa t.args[k] = true := by
  have h1 := sizeVas_take t.args k hk
  unfold leftForm at *
  split at h
  · rename_i h2
    rw [if_pos h2]
    exact ⟨by omega, h2.2⟩
  · omega
theorem leftForm_yes (t : Va) (a : Int) (h0 : nodeVB t.kind t.num t.name t.labels t.args.length = true) (h1 : 0 ≤ a - 1 - (sizeVas t.args : Int)) (h2 : ∀ i, (h : i < t.args.length) → formVa t.args[i] = true) : leftForm t a = a - 1 - (sizeVas t.args : Int) := by
  have h3 := sizeVa_eq t
  unfold leftForm
  rw [if_pos ⟨by omega, by rw [formVa_eq, formVas_all _ h2, h0]; rfl⟩]
  omega

def LeftFOne (t : Va) : Prop := ∀ (V : Value) (a : Int) (w : World), VaAt w w.heap.size V t → FormsAt w → numsB t = true → szVa t ≤ 1048576 → 0 ≤ a → a ≤ 1000 → Calls Tryz.prog 33 #[V, .int .i64 a] w (IntBelow (leftForm t a) w)

set_option maxHeartbeats 4000000 in
theorem nodesLeft_of (k0 n0 : Int) (nm : ByteArray) (ls : List ByteArray) (ts : List Va) (hall : ∀ i, (h : i < ts.length) → LeftFOne ts[i]) : LeftFOne (.mk k0 n0 nm ls ts) := by
  intro V a w hv hF hnum hsz h0 h1
  have hse := szVa_eq (.mk k0 n0 nm ls ts)
  obtain ⟨hnum1, hnum2⟩ := numsB_of _ hnum
  have hv0 := hv
  have HFO := Lib.hid (fun W h hf => hasValueForm_any (.mk k0 n0 nm ls ts) V W h hf hnum1 hsz)
  have hZ := Lib.hid (leftForm_zero (.mk k0 n0 nm ls ts))
  have hNo := Lib.hid (leftForm_no (.mk k0 n0 nm ls ts) a)
  have hPa := Lib.hid (leftForm_part (.mk k0 n0 nm ls ts) a)
  have hNx := Lib.hid (leftForm_next (.mk k0 n0 nm ls ts) a)
  have hYe := Lib.hid (leftForm_yes (.mk k0 n0 nm ls ts) a)
  obtain ⟨L, lc, A, ac, rfl, _, _, _, _, ha⟩ := hv.open
  simp only [Va.kind, Va.num, Va.name, Va.labels, Va.args] at *
  have hm := ha.1
  unfold maxLen at hm
  have hsz2 : szVas ts ≤ 1048576 := by omega
  have HALL := Lib.hid hall
  have HNUM := Lib.hid hnum2
  generalize hres : leftForm (.mk k0 n0 nm ls ts) a = res at *
  obtain ⟨hb0, p0, hs0⟩ := boxes1 w 27 #[.int .i64 k0, .int .i64 n0, .string nm, .slice L ls.length lc, .slice A ts.length ac]
  have ha0 := ha.up hb0
  have hF0 := hF.below hb0
  have HV := Lib.hid (HFO.out _ (hv0.up hb0) hF0)
  have HRS := Lib.hid hres
  clear hall hv hv0 ha hse hs0 hnum hnum1 hnum2 hF HFO hres
  by_cases hz : a = 0
  · subst hz
    have hr := Lib.hid (show res = -1 from HRS.out.symm.trans hZ.out)
    go_enter Tryz.func33, Tryz.ntmps33
    go_wp2
    go_ret
    exact ⟨by rw [hr.out]; rfl, hb0⟩
  · have i0 : (a == 0) = false := by rw [beq_eq_false_iff_ne]; exact hz
    cases hnode : nodeVB k0 n0 nm ls ts.length
    · have hr := Lib.hid (show res = -1 from hNo.out hnode)
      rw [hnode] at HV
      clear hnode hz
      go_enter Tryz.func33, Tryz.ntmps33
      go_wp2_with fail
      generalize w.alloc (.cells #[.int .i64 k0, .int .i64 n0, .string nm, .slice L ls.length lc, .slice A ts.length ac] 27) = w0 at *
      refine HV.out.mono ?_
      rintro e w1 ⟨rfl, hb1⟩
      go_wp2
      go_ret
      exact ⟨by rw [hr.out]; rfl, hb0.trans (hb1.mono hb0.size)⟩
    · rw [hnode] at HV
      have HND := Lib.hid hnode
      clear hnode
      go_enter Tryz.func33, Tryz.ntmps33
      go_wp2_with fail
      generalize w.alloc (.cells #[.int .i64 k0, .int .i64 n0, .string nm, .slice L ls.length lc, .slice A ts.length ac] 27) = w0 at *
      refine HV.out.mono ?_
      rintro e w1 ⟨rfl, hb1⟩
      have hb1' := hb0.trans (hb1.mono hb0.size)
      have p1 := p0.below hb1 p0.lt
      have ha1 := ha0.up hb1
      have hF1 := hF0.below hb1
      have c4 : w1.cell? ⟨w.heap.size, 4, none⟩ = some (.slice A ts.length ac) := p1.cell 4
      clear HV ha0 hF0 p0 hb0
      go_wp2
      clear c4
      go_loopw [5, 20] (fun lf i wr => ∃ (k : Nat) (x : Int), k ≤ ts.length ∧ i = .int .i64 k ∧ lf = .int .i64 x ∧ Hid (x = a - 1 - (sizeVas (ts.take k) : Int)) ∧ 0 ≤ x ∧ x ≤ 1000 ∧ (∀ j, (hj : j < ts.length) → j < k → formVa ts[j] = true) ∧ Below w1.heap.size w1 wr) (fun _ i _ => ts.length - (intOf i).toNat)
      case atStart => exact ⟨0, a - 1, Nat.zero_le _, rfl, rfl, Lib.hid (by simp [sizeVas]), by omega, by omega, fun j _ h => absurd h (by omega), Below.refl _ _⟩
      case round =>
        obtain ⟨k, x, hk, rfl, rfl, hx, hx0, hx1, hall, hb⟩ := hrel
        have HA := Lib.hid hall
        clear hall
        have hbw := hb1'.trans (hb.mono hb1'.size)
        by_cases hlt : k < ts.length
        · obtain ⟨b, off, L1, lc1, A1, ac1, rfl, hbl, q0, q1, q2, q3, q4, ht⟩ := (ha1.below hb).elem k hlt
          have hpt := szVa_part ts k hlt
          have hbx := (Below.refl wr.heap.size wr).alloc (Nat.le_refl _) (.cells #[.int .i64 ts[k].kind, .int .i64 ts[k].num, .string ts[k].name, .slice L1 ts[k].labels.length lc1, .slice A1 ts[k].args.length ac1] 27)
          have HT := HALL.out k hlt _ x _ ((ht.more hb.size).up hbx) ((hF1.below hb).below hbx) (HNUM.out k hlt) (by omega) hx0 hx1
          by_cases hneg : leftForm ts[k] x < 0
          · have hr := Lib.hid (show res = -1 from hPa.out k hlt (by rw [← hx.out]; exact hneg))
            have HT' := Lib.hid HT
            generalize leftForm ts[k] x = y at *
            clear ht HT
            go_wp2_with fail
            refine HT'.out.mono ?_
            rintro e w3 ⟨rfl, hb3⟩
            go_wp2
            go_ret
            exact ⟨by rw [hr.out]; rfl, hbw.trans ((hbx.trans (hb3.mono (by simp))).mono hbw.size)⟩
          · have hnx := hNx.out k hlt (by rw [← hx.out]; omega)
            rw [← hx.out] at hnx
            have HT' := Lib.hid HT
            have HX := Lib.hid hnx.1
            have HK := Lib.hid hnx.2
            have hle : leftForm ts[k] x ≤ x := by unfold leftForm; split <;> omega
            clear hnx
            generalize leftForm ts[k] x = y at *
            clear ht HT
            go_wp2_with fail
            refine HT'.out.mono ?_
            rintro e w3 ⟨rfl, hb3⟩
            go_wp2
            go_roundw
            case rel =>
              refine ⟨k + 1, y, by omega, by go_num, rfl, Lib.hid HX.out, by omega, by omega, fun j hj h => ?_, hb.trans ((hbx.trans (hb3.mono (by simp))).mono hb.size)⟩
              by_cases e : j = k
              · subst e
                exact HK.out
              · exact HA.out j hj (by omega)
            case measure => simp [intOf]; omega
        · have hke : k = ts.length := by omega
          subst hke
          rw [List.take_length] at hx
          have hr := Lib.hid (show res = x by rw [hYe.out HND.out (by rw [← hx.out]; exact hx0) fun i hi => HA.out i hi hi, hx.out])
          go_wp2
          go_ret
          exact ⟨by rw [hr.out]; rfl, hbw⟩

theorem nodesLeft_any (t : Va) : LeftFOne t := by
  induction t using Va.ind with
  | h k n nm ls ts ih => exact nodesLeft_of k n nm ls ts ih

set_option maxHeartbeats 1000000 in
theorem implIsValue_any (t : Va) (v : Value) (w : World) (hv : OwnV w v t) (hF : FormsAt w) (hnum : numsB t = true) (hsz : szVa t ≤ 1048576) : Calls Tryz.prog 15 #[v] w (BoolIs (valueB t) w) := by
  have HN := Lib.hid (fun V W h hf => nodesLeft_any t V 300 W h hf hnum hsz (by omega) (by omega))
  obtain ⟨L, lc, A, ac, rfl, _⟩ := hv.open
  obtain ⟨hb0, p0, hs0⟩ := boxes1 w 27 #[.int .i64 t.kind, .int .i64 t.num, .string t.name, .slice L t.labels.length lc, .slice A t.args.length ac]
  have hv0 := hv.up hb0
  have HF := Lib.hid (HN.out _ _ hv0.here (hF.below hb0))
  clear hv hv0 hs0 p0
  by_cases h : (sizeVa t : Int) ≤ 300 ∧ formVa t = true
  · have hl : leftForm t 300 = 300 - sizeVa t := by unfold leftForm; rw [if_pos h]
    have i1 : (0 : Int) ≤ 300 - sizeVa t := by omega
    have hr := Lib.hid (show valueB t = true by unfold valueB; rw [h.2]; simp; omega)
    rw [hl] at HF
    have i2 : (300 : Int) - sizeVa t ≥ 0 := by omega
    clear h hl
    generalize (300 : Int) - (sizeVa t : Int) = x at *
    go_enter Tryz.func15, Tryz.ntmps15
    go_wp2_with fail
    refine HF.out.mono ?_
    rintro e w1 ⟨rfl, hb1⟩
    go_wp2
    go_ret
    exact ⟨by rw [hr.out]; rfl, hb0.trans (hb1.mono hb0.size)⟩
  · have hl : leftForm t 300 = -1 := by unfold leftForm; rw [if_neg h]
    have hr := Lib.hid (show valueB t = false by
      unfold valueB
      rw [Bool.and_eq_false_iff]
      by_cases h3 : formVa t = true
      · left
        rw [decide_eq_false_iff_not]
        intro h4
        exact h ⟨by omega, h3⟩
      · right
        simpa using h3)
    rw [hl] at HF
    clear h hl
    go_enter Tryz.func15, Tryz.ntmps15
    go_wp2_with fail
    refine HF.out.mono ?_
    rintro e w1 ⟨rfl, hb1⟩
    go_wp2
    go_ret
    exact ⟨by rw [hr.out]; rfl, hb0.trans (hb1.mono hb0.size)⟩

end Go.Proofs.YtceclhndagoddaaGreatDoor
end

section
namespace Go.Proofs.YtceclhndagoddaaGreatDoor
open Go.RowKit Go.Shelf
def Tryz.lays166_ren : Go.Shelf.Ren := ⟨fun | 166 => 88 | 240 => 99 | 276 => 107 | n => n, fun | 0 => 0 | 3 => 3 | 4 => 4 | 5 => 5 | 9 => 9 | 20 => 20 | 37 => 22 | 70 => 113 | 72 => 115 | 75 => 117 | 80 => 120 | 164 => 134 | n => n, fun | n => n⟩
theorem Tryz.lays166 : Go.Proofs.Lays.n166 Tryz.prog Tryz.lays166_ren := {
  mixed := by kernel_rfl
  f166 := Tryz.func88.trans (congrArg some (by kernel_rfl))
  f240 := Tryz.func99.trans (congrArg some (by kernel_rfl))
  f276 := Tryz.func107.trans (congrArg some (by kernel_rfl))
  t0 := Tryz.underlying0
  a0 := Tryz.isAgg0
  z0 := Tryz.sizeOf0
  v0 := Tryz.zeroValue0
  t3 := Tryz.underlying3
  a3 := Tryz.isAgg3
  z3 := Tryz.sizeOf3
  v3 := Tryz.zeroValue3
  t4 := Tryz.underlying4
  a4 := Tryz.isAgg4
  z4 := Tryz.sizeOf4
  v4 := Tryz.zeroValue4
  t9 := Tryz.underlying9
  a9 := Tryz.isAgg9
  z9 := Tryz.sizeOf9
  v9 := Tryz.zeroValue9
  t20 := Tryz.underlying20
  a20 := Tryz.isAgg20
  z20 := Tryz.sizeOf20
  v20 := Tryz.zeroValue20
  t37 := Tryz.underlying22
  a37 := Tryz.isAgg22
  z37 := Tryz.sizeOf22
  v37 := Tryz.zeroValue22
  t70 := Tryz.underlying113
  a70 := Tryz.isAgg113
  z70 := Tryz.sizeOf113
  v70 := Tryz.zeroValue113
  t72 := Tryz.underlying115
  a72 := Tryz.isAgg115
  z72 := Tryz.sizeOf115
  v72 := Tryz.zeroValue115
  t75 := Tryz.underlying117
  a75 := Tryz.isAgg117
  z75 := Tryz.sizeOf117
  v75 := Tryz.zeroValue117
  t164 := Tryz.underlying134
  a164 := Tryz.isAgg134
  z164 := Tryz.sizeOf134
  v164 := Tryz.zeroValue134 }
theorem Tryz.builderX166 : Builder.Extra Tryz.prog Tryz.lays166_ren := {
  sizeBuilder := by kernel_rfl
  liesBuilder := by kernel_rfl
  t5 := Tryz.underlying5
  a5 := Tryz.isAgg5
  z5 := Tryz.sizeOf5
  v5 := Tryz.zeroValue5
  infoByte := by kernel_rfl
  cellsByte := by kernel_rfl
  sizeByte := by kernel_rfl
  neB5 := by decide }
theorem Tryz.writeString (B b : Nat) (bs : List Value) (s : ByteArray) (w : World) (h : Lib.IsBuilder 115 5 B b bs w) (hlen : bs.length + s.size ≤ 140737488355328) (hBw : B ≤ w.heap.size) :
    Calls Tryz.prog 88 #[.pointer (some ⟨b, 0, none⟩), .string s] w fun e w' => e = .returned (.tuple #[.int .i64 s.size, .nilIface]) ∧ (Lib.BuilderAt 115 5 B b (.pointer (some ⟨b, 0, none⟩)) (bs ++ Lib.strCells s) w' ∧ Below B w w') := Any.Builder_WriteString Tryz.lays166 Tryz.builderX166 B b bs s w h hlen hBw
def Tryz.lays169_ren : Go.Shelf.Ren := ⟨fun | 169 => 89 | n => n, fun | 0 => 0 | 3 => 3 | 5 => 5 | 9 => 9 | 37 => 22 | 70 => 113 | 72 => 115 | 127 => 122 | n => n, fun | n => n⟩
theorem Tryz.lays169 : Go.Proofs.Lays.n169 Tryz.prog Tryz.lays169_ren := {
  mixed := by kernel_rfl
  f169 := Tryz.func89.trans (congrArg some (by kernel_rfl))
  t0 := Tryz.underlying0
  a0 := Tryz.isAgg0
  z0 := Tryz.sizeOf0
  v0 := Tryz.zeroValue0
  t3 := Tryz.underlying3
  a3 := Tryz.isAgg3
  z3 := Tryz.sizeOf3
  v3 := Tryz.zeroValue3
  t9 := Tryz.underlying9
  a9 := Tryz.isAgg9
  z9 := Tryz.sizeOf9
  v9 := Tryz.zeroValue9
  t37 := Tryz.underlying22
  a37 := Tryz.isAgg22
  z37 := Tryz.sizeOf22
  v37 := Tryz.zeroValue22
  t70 := Tryz.underlying113
  a70 := Tryz.isAgg113
  z70 := Tryz.sizeOf113
  v70 := Tryz.zeroValue113
  t72 := Tryz.underlying115
  a72 := Tryz.isAgg115
  z72 := Tryz.sizeOf115
  v72 := Tryz.zeroValue115
  t127 := Tryz.underlying122
  a127 := Tryz.isAgg122
  z127 := Tryz.sizeOf122
  v127 := Tryz.zeroValue122 }
theorem Tryz.builderX169 : Builder.Extra Tryz.prog Tryz.lays169_ren := {
  sizeBuilder := by kernel_rfl
  liesBuilder := by kernel_rfl
  t5 := Tryz.underlying5
  a5 := Tryz.isAgg5
  z5 := Tryz.sizeOf5
  v5 := Tryz.zeroValue5
  infoByte := by kernel_rfl
  cellsByte := by kernel_rfl
  sizeByte := by kernel_rfl
  neB5 := by decide }
theorem Tryz.builderString (B b : Nat) (l : List UInt8) (w : World) (h : Lib.IsBuilder 115 5 B b (Lib.byteCells l) w) (hBw : B ≤ w.heap.size) :
    Calls Tryz.prog 89 #[.pointer (some ⟨b, 0, none⟩)] w fun e w' => e = .returned (.string ⟨l.toArray⟩) ∧ Below B w w' := Any.Builder_String_any Tryz.lays169 Tryz.builderX169 B b l w h hBw

end Go.Proofs.YtceclhndagoddaaGreatDoor

namespace Go.Proofs.YtceclhndagoddaaGreatDoor
open Go.RowKit

theorem byteCells_eq (l : List UInt8) : Lib.byteCells l = cellsOf l := rfl

set_option maxHeartbeats 400000 in
theorem implJoin_any (A : Option Addr) (c : Nat) (ss : List ByteArray) (sep : ByteArray) (w : World) (hA : StrsAt w w.heap.size A ss) (hn : ss.length ≤ 1048576) (hsum : sumSizes ss ≤ 1048576) (hsep : sep.size ≤ 1048576) :
    Calls Tryz.prog 68 #[.slice A ss.length c, .string sep] w fun e w' => e = .returned (.string ⟨(joinTo ss sep ss.length).toArray⟩) ∧ Below w.heap.size w w' := by
  have hstart := Lib.fresh_isBuilder 115 5 w
  go_enter Tryz.func68, Tryz.ntmps68
  go_wp2
  go_loopw [10] (fun i wr => ∃ k : Nat, k ≤ ss.length ∧ i = .int .i64 k ∧ Lib.IsBuilder 115 5 w.heap.size w.heap.size (cellsOf (joinTo ss sep k)) wr ∧ Below w.heap.size w wr) (fun i _ => ss.length - (intOf i).toNat)
  case atStart => exact ⟨0, Nat.zero_le _, rfl, hstart, (Below.refl _ _).alloc (Nat.le_refl _) _⟩
  case round =>
    obtain ⟨k, hk, rfl, hbu, hb⟩ := hrel
    clear hstart
    by_cases hlt : k < ss.length
    · obtain ⟨b, off, rfl, hbl, hcell⟩ := (hA.below hb) k hlt
      have hl := joinTo_len ss sep k hk
      have hl1 := sumSizes_take_le ss k
      have hl2 := size_le_sumSizes ss k hlt
      have hl3 : k * sep.size ≤ 1048576 * 1048576 := Nat.mul_le_mul (by omega) hsep
      have hJ : Hid (joinTo ss sep (k + 1) = joinTo ss sep k ++ (if 0 < k then sep.data.toList else []) ++ ss[k].data.toList) := by
        show joinTo ss sep (k + 1) = _
        rw [joinTo]
        simp [hlt]
      by_cases hk0 : k = 0
      · subst hk0
        rw [Nat.add_zero] at hcell
        go_wp2_with (go_at_call 88; refine (Tryz.writeString w.heap.size w.heap.size _ _ _ hbu (by rw [cellsOf_len]; omega) hb.size).mono ?_; rintro e w1 ⟨rfl, hbu1, hb1⟩)
        go_roundw
        case rel => exact ⟨1, by omega, by go_num, by rw [show joinTo ss sep 1 = _ from hJ.out]; exact .inr (by simpa [cellsOf_append, cellsOf_str, joinTo, cellsOf] using hbu1), hb.trans hb1⟩
        case measure => simp [intOf]; omega
      · go_wp2_with fail
        refine (Tryz.writeString w.heap.size w.heap.size _ _ _ hbu (by rw [cellsOf_len]; omega) hb.size).mono ?_
        rintro e w1 ⟨rfl, hbu1, hb1⟩
        have hcell1 := (hb1.cell (p := ⟨b, off + k, none⟩) hbl).trans hcell
        have hb1' := hb.trans hb1
        clear hcell
        go_wp2_with fail
        refine (Tryz.writeString w.heap.size w.heap.size _ _ _ (.inr hbu1) (by rw [List.length_append, cellsOf_len, Lib.strCells_length]; omega) hb1'.size).mono ?_
        rintro e w2 ⟨rfl, hbu2, hb2⟩
        go_wp2
        go_roundw
        case rel => exact ⟨k + 1, by omega, by go_num, by rw [hJ.out, if_pos (by omega)]; exact .inr (by simpa [cellsOf_append, cellsOf_str] using hbu2), hb1'.trans hb2⟩
        case measure => simp [intOf]; omega
    · have hk' : k = ss.length := by omega
      subst hk'
      go_wp2_with fail
      refine (Tryz.builderString w.heap.size w.heap.size _ _ hbu hb.size).mono ?_
      rintro e w1 ⟨rfl, hb1⟩
      go_wp2
      go_ret
      exact ⟨rfl, hb.trans hb1⟩

end Go.Proofs.YtceclhndagoddaaGreatDoor
end
