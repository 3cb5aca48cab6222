/- strings.Builder's contracts of the shelf at this program. -/
import Derived.Shelf.Strings.Builder1
import Derived.Test.YtbhhejcaggmcnaaDoorProg
import Derived.Test.YtbhhejcaggmcnaaDoorSz
import Derived.Deep.DeepMust

namespace Go.Proofs.YtbhhejcaggmcnaaDoor
open Go.RowKit Go.Shelf
def Tryd.lays166_ren : Go.Shelf.Ren := ⟨fun | 166 => 153 | 240 => 165 | 276 => 172 | n => n, fun | 0 => 0 | 3 => 3 | 4 => 4 | 5 => 5 | 9 => 9 | 20 => 20 | 37 => 38 | 70 => 178 | 72 => 180 | 75 => 182 | 80 => 185 | 164 => 208 | n => n, fun | n => n⟩
theorem Tryd.lays166 : Go.Proofs.Lays.n166 Tryd.prog Tryd.lays166_ren := {
  mixed := by kernel_rfl
  f166 := Tryd.func153.trans (congrArg some (by kernel_rfl))
  f240 := Tryd.func165.trans (congrArg some (by kernel_rfl))
  f276 := Tryd.func172.trans (congrArg some (by kernel_rfl))
  t0 := Tryd.underlying0
  a0 := Tryd.isAgg0
  z0 := Tryd.sizeOf0
  v0 := Tryd.zeroValue0
  t3 := Tryd.underlying3
  a3 := Tryd.isAgg3
  z3 := Tryd.sizeOf3
  v3 := Tryd.zeroValue3
  t4 := Tryd.underlying4
  a4 := Tryd.isAgg4
  z4 := Tryd.sizeOf4
  v4 := Tryd.zeroValue4
  t9 := Tryd.underlying9
  a9 := Tryd.isAgg9
  z9 := Tryd.sizeOf9
  v9 := Tryd.zeroValue9
  t20 := Tryd.underlying20
  a20 := Tryd.isAgg20
  z20 := Tryd.sizeOf20
  v20 := Tryd.zeroValue20
  t37 := Tryd.underlying38
  a37 := Tryd.isAgg38
  z37 := Tryd.sizeOf38
  v37 := Tryd.zeroValue38
  t70 := Tryd.underlying178
  a70 := Tryd.isAgg178
  z70 := Tryd.sizeOf178
  v70 := Tryd.zeroValue178
  t72 := Tryd.underlying180
  a72 := Tryd.isAgg180
  z72 := Tryd.sizeOf180
  v72 := Tryd.zeroValue180
  t75 := Tryd.underlying182
  a75 := Tryd.isAgg182
  z75 := Tryd.sizeOf182
  v75 := Tryd.zeroValue182
  t164 := Tryd.underlying208
  a164 := Tryd.isAgg208
  z164 := Tryd.sizeOf208
  v164 := Tryd.zeroValue208 }
theorem Tryd.builderX166 : Builder.Extra Tryd.prog Tryd.lays166_ren := {
  sizeBuilder := by kernel_rfl
  liesBuilder := by kernel_rfl
  t5 := Tryd.underlying5
  a5 := Tryd.isAgg5
  z5 := Tryd.sizeOf5
  v5 := Tryd.zeroValue5
  infoByte := by kernel_rfl
  cellsByte := by kernel_rfl
  sizeByte := by kernel_rfl
  neB5 := by decide }
theorem Tryd.writeString (B b : Nat) (bs : List Value) (s : ByteArray) (w : World) (h : Lib.IsBuilder 180 5 B b bs w) (hlen : bs.length + s.size ≤ 140737488355328) (hBw : B ≤ w.heap.size) :
    Calls Tryd.prog 153 #[.pointer (some ⟨b, 0, none⟩), .string s] w fun e w' => e = .returned (.tuple #[.int .i64 s.size, .nilIface]) ∧ (Lib.BuilderAt 180 5 B b (.pointer (some ⟨b, 0, none⟩)) (bs ++ Lib.strCells s) w' ∧ Below B w w') := Any.Builder_WriteString Tryd.lays166 Tryd.builderX166 B b bs s w h hlen hBw
def Tryd.lays169_ren : Go.Shelf.Ren := ⟨fun | 169 => 154 | n => n, fun | 0 => 0 | 3 => 3 | 5 => 5 | 9 => 9 | 37 => 38 | 70 => 178 | 72 => 180 | 127 => 188 | n => n, fun | n => n⟩
theorem Tryd.lays169 : Go.Proofs.Lays.n169 Tryd.prog Tryd.lays169_ren := {
  mixed := by kernel_rfl
  f169 := Tryd.func154.trans (congrArg some (by kernel_rfl))
  t0 := Tryd.underlying0
  a0 := Tryd.isAgg0
  z0 := Tryd.sizeOf0
  v0 := Tryd.zeroValue0
  t3 := Tryd.underlying3
  a3 := Tryd.isAgg3
  z3 := Tryd.sizeOf3
  v3 := Tryd.zeroValue3
  t9 := Tryd.underlying9
  a9 := Tryd.isAgg9
  z9 := Tryd.sizeOf9
  v9 := Tryd.zeroValue9
  t37 := Tryd.underlying38
  a37 := Tryd.isAgg38
  z37 := Tryd.sizeOf38
  v37 := Tryd.zeroValue38
  t70 := Tryd.underlying178
  a70 := Tryd.isAgg178
  z70 := Tryd.sizeOf178
  v70 := Tryd.zeroValue178
  t72 := Tryd.underlying180
  a72 := Tryd.isAgg180
  z72 := Tryd.sizeOf180
  v72 := Tryd.zeroValue180
  t127 := Tryd.underlying188
  a127 := Tryd.isAgg188
  z127 := Tryd.sizeOf188
  v127 := Tryd.zeroValue188 }
theorem Tryd.builderX169 : Builder.Extra Tryd.prog Tryd.lays169_ren := {
  sizeBuilder := by kernel_rfl
  liesBuilder := by kernel_rfl
  t5 := Tryd.underlying5
  a5 := Tryd.isAgg5
  z5 := Tryd.sizeOf5
  v5 := Tryd.zeroValue5
  infoByte := by kernel_rfl
  cellsByte := by kernel_rfl
  sizeByte := by kernel_rfl
  neB5 := by decide }
theorem Tryd.builderString (B b : Nat) (l : List UInt8) (w : World) (h : Lib.IsBuilder 180 5 B b (Lib.byteCells l) w) (hBw : B ≤ w.heap.size) :
    Calls Tryd.prog 154 #[.pointer (some ⟨b, 0, none⟩)] w fun e w' => e = .returned (.string ⟨l.toArray⟩) ∧ Below B w w' := Any.Builder_String_any Tryd.lays169 Tryd.builderX169 B b l w h hBw

end Go.Proofs.YtbhhejcaggmcnaaDoor

namespace Go.Proofs.YtbhhejcaggmcnaaDoor
open Go.RowKit

theorem byteCells_eq (l : List UInt8) : Lib.byteCells l = cellsOf l := rfl

set_option maxHeartbeats 400000 in
theorem implJoin_any (A : Option Addr) (c : Nat) (ss : List ByteArray) (sep : ByteArray) (w : World) (hA : StrsAt w w.heap.size A ss) (hn : ss.length ≤ 1048576) (hsum : sumSizes ss ≤ 1048576) (hsep : sep.size ≤ 1048576) :
    Calls Tryd.prog 127 #[.slice A ss.length c, .string sep] w fun e w' => e = .returned (.string ⟨(joinTo ss sep ss.length).toArray⟩) ∧ Below w.heap.size w w' := by
  have hstart := Lib.fresh_isBuilder 180 5 w
  go_enter Tryd.func127, Tryd.ntmps127
  go_wp2
  go_loopw [10] (fun i wr => ∃ k : Nat, k ≤ ss.length ∧ i = .int .i64 k ∧ Lib.IsBuilder 180 5 w.heap.size w.heap.size (cellsOf (joinTo ss sep k)) wr ∧ Below w.heap.size w wr) (fun i _ => ss.length - (intOf i).toNat)
  case atStart => exact ⟨0, Nat.zero_le _, rfl, hstart, (Below.refl _ _).alloc (Nat.le_refl _) _⟩
  case round =>
    obtain ⟨k, hk, rfl, hbu, hb⟩ := hrel
    clear hstart
    by_cases hlt : k < ss.length
    · obtain ⟨b, off, rfl, hbl, hcell⟩ := (hA.below hb) k hlt
      have hl := joinTo_len ss sep k hk
      have hl1 := sumSizes_take_le ss k
      have hl2 := size_le_sumSizes ss k hlt
      have hl3 : k * sep.size ≤ 1048576 * 1048576 := Nat.mul_le_mul (by omega) hsep
      have hJ : Hid (joinTo ss sep (k + 1) = joinTo ss sep k ++ (if 0 < k then sep.data.toList else []) ++ ss[k].data.toList) := by
        show joinTo ss sep (k + 1) = _
        rw [joinTo]
        simp [hlt]
      by_cases hk0 : k = 0
      · subst hk0
        rw [Nat.add_zero] at hcell
        go_wp2_with (go_at_call 153; refine (Tryd.writeString w.heap.size w.heap.size _ _ _ hbu (by rw [cellsOf_len]; omega) hb.size).mono ?_; rintro e w1 ⟨rfl, hbu1, hb1⟩)
        go_roundw
        case rel => exact ⟨1, by omega, by go_num, by rw [show joinTo ss sep 1 = _ from hJ.out]; exact .inr (by simpa [cellsOf_append, cellsOf_str, joinTo, cellsOf] using hbu1), hb.trans hb1⟩
        case measure => simp [intOf]; omega
      · go_wp2_with fail
        refine (Tryd.writeString w.heap.size w.heap.size _ _ _ hbu (by rw [cellsOf_len]; omega) hb.size).mono ?_
        rintro e w1 ⟨rfl, hbu1, hb1⟩
        have hcell1 := (hb1.cell (p := ⟨b, off + k, none⟩) hbl).trans hcell
        have hb1' := hb.trans hb1
        clear hcell
        go_wp2_with fail
        refine (Tryd.writeString w.heap.size w.heap.size _ _ _ (.inr hbu1) (by rw [List.length_append, cellsOf_len, Lib.strCells_length]; omega) hb1'.size).mono ?_
        rintro e w2 ⟨rfl, hbu2, hb2⟩
        go_wp2
        go_roundw
        case rel => exact ⟨k + 1, by omega, by go_num, by rw [hJ.out, if_pos (by omega)]; exact .inr (by simpa [cellsOf_append, cellsOf_str] using hbu2), hb1'.trans hb2⟩
        case measure => simp [intOf]; omega
    · have hk' : k = ss.length := by omega
      subst hk'
      go_wp2_with fail
      refine (Tryd.builderString w.heap.size w.heap.size _ _ hbu hb.size).mono ?_
      rintro e w1 ⟨rfl, hb1⟩
      go_wp2
      go_ret
      exact ⟨rfl, hb.trans hb1⟩

end Go.Proofs.YtbhhejcaggmcnaaDoor
