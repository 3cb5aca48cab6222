/- Lemmas: ImplOForm, ImplOText, ShelfAtoi, Atoi, IntW, ImplParse, RO. -/
import Derived.Test.YtlmbnefoobameaaGreatDoorLawFnOpticText_6
import Derived.Test.YtlmbnefoobameaaGreatDoorLawFnOpticText_4
import Derived.Test.YtlmbnefoobameaaGreatDoorLawFnOpticText_10
import Derived.Deep.MidRow
import Derived.Test.YtlmbnefoobameaaGreatDoorLawFnOpticText_8
import Derived.Deep.RegionHeld3
import Derived.Deep.DrawnRows
import Derived.BigGuard
import Derived.Shelf.Strconv.Atoi
import Derived.Shelf.Strconv.Itoa0
import Derived.Shelf.Strconv.Itoa1
import Derived.Shelf.LaysM
import Derived.Shelf.Strconv.Itoa2
import Derived.Shelf.Strconv.Itoa3
import Derived.Shelf.Strconv.AtoiErrFast
import Derived.Shelf.Strconv.ParseIntEmpty
import Derived.Shelf.Strconv.AtoiFail
import Derived.Shelf.Strconv.Clone
import Derived.Shelf.Strconv.SyntaxError
import Derived.Shelf.LaysC
import Derived.Shelf.Strconv.ToError
import Derived.Shelf.Strconv.Lower
import Derived.Shelf.Strconv.ParseUint10
import Derived.Shelf.Strconv.ParseUint10Empty
import Derived.Shelf.Strconv.ParseUint10Any
import Derived.Shelf.Strconv.ParseInt10
import Derived.Shelf.Strconv.AtoiLong
import Derived.Shelf.Strconv.AtoiInnerAll
import Derived.Shelf.Strconv.RangeError
import Derived.Shelf.Strconv.ToErrorRange
import Derived.Shelf.Strconv.AtoiAll
import Derived.Shelf.Strconv.ErrVarAll
import Derived.Shelf.GgClosure.StringsIndexFunc
import Derived.Shelf.GgClosure.StringsTrimFunc
import Derived.Shelf.GgClosure.StringsRunes
import Derived.Shelf.Strings.Prefix
import Derived.Test.YtlmbnefoobameaaGreatDoorProg
import Derived.Test.YtlmbnefoobameaaGreatDoorLawFnOpticText_7
import Derived.Below
import Derived.WalkKit
import Derived.WalkLawsBesides
import Derived.Lib.IfaceNeq
import Derived.Defers
import Derived.Recover
import Derived.Test.YtlmbnefoobameaaGreatDoorLawFnOpticText_11

section
namespace Go.Proofs.YtlmbnefoobameaaGreatDoor
set_option maxRecDepth 100000
open Go.RowKit

theorem run_store_func {P : Program} {w : World} {a : Addr} {m : Mode} (f : Fn) (fr bs : Array Value) : (store a (.func f fr bs) m).run P w = stored P w a (.func f fr bs) m := run_store P w a _ m rfl
theorem run_store_nilFunc {P : Program} {w : World} {a : Addr} {m : Mode} : (store a .nilFunc m).run P w = stored P w a .nilFunc m := run_store P w a _ m rfl
attribute [local go_sem] run_store_func run_store_nilFunc

/-- The table of forms, as cells. -/
def formTab : Array Value := #[.int .i64 0, .nilFunc, .int .i64 0, .func (.func 79) #[] #[], .int .i64 0, .func (.func 80) #[] #[], .int .i64 0, .func (.func 80) #[] #[], .int .i64 0, .func (.func 79) #[] #[], .int .i64 0, .func (.func 79) #[] #[], .int .i64 0, .func (.func 81) #[] #[], .int .i64 0, .func (.func 82) #[] #[], .int .i64 0, .func (.func 79) #[] #[], .int .i64 0, .func (.func 79) #[] #[], .int .i64 0, .func (.func 80) #[] #[], .int .i64 1, .func (.func 79) #[] #[], .int .i64 2, .func (.func 79) #[] #[], .int .i64 2, .func (.func 79) #[] #[]]
theorem infoTab : (Tryz.prog.info? 112).map (·.size) = some formTab.size := by kernel_rfl
theorem allTab : formTab.all (·.oneCell') = true := by kernel_rfl
theorem sizeTab : formTab.size = 28 := by kernel_rfl
theorem Below.setCells {B : Nat} {a : World} {b : Nat} (hB : B ≤ b) : ∀ (vs : List Value) (o : Nat) (w : World), Below B a w → Below B a (w.setCells b o vs)
  | [], _, _, h => h
  | v :: r, o, _, h => Below.setCells hB r (o + 1) _ (h.setCell (p := ⟨b, o, none⟩) hB v)
/-- The function that a kind's name and number must pass. -/
def fitFn (k : Int) : Nat := if k = 2 ∨ k = 3 ∨ k = 10 then 80 else if k = 6 then 81 else if k = 7 then 82 else 79

/-- A row made last, laid over as a whole. -/
theorem laidOver (w : World) (t1 t2 : TypeId) (a b c : Array Value) (h : b.size = c.size) : ∃ wx : World, ((w.alloc (.cells a t1)).alloc (.cells b t2)).there (w.heap.size + 1) 0 c.size ∧ ((w.alloc (.cells a t1)).alloc (.cells b t2)).setCells (w.heap.size + 1) 0 c.toList = wx ∧
    (∀ j, wx.cell? ⟨w.heap.size + 1, j, none⟩ = c[j]?) ∧ (∀ j, wx.cell? ⟨w.heap.size, j, none⟩ = a[j]?) ∧ (∀ j, wx.frozen? ⟨w.heap.size, j, none⟩ = false) ∧ Below w.heap.size w wx := by
  obtain ⟨hb, p0, q0, hs⟩ := boxes2 w t1 t2 a b
  have ht : ((w.alloc (.cells a t1)).alloc (.cells b t2)).there (w.heap.size + 1) 0 c.size := fun j hj => ⟨by
    rw [Nat.zero_add, q0.cell j, Array.getElem?_eq_getElem (by omega), Option.isSome_some], by rw [Nat.zero_add]; exact q0.free j⟩
  refine ⟨_, ht, rfl, fun j => ?_, fun j => ?_, fun j => ?_, Below.setCells (by omega) _ _ _ hb⟩
  · by_cases hj : j < c.size
    · have := World.cell?_setCells_in (w.heap.size + 1) c.toList 0 _ (fun i hi => (ht i (by simpa using hi)).1) j (by simpa using hj)
      rw [Nat.zero_add] at this
      rw [this, Array.getElem?_eq_getElem hj, Array.getElem_toList]
    · rw [World.cell?_setCells_out _ _ _ _ _ (fun _ _ => Or.inr (by simp; omega)), q0.cell j, Array.getElem?_eq_none (by omega), Array.getElem?_eq_none (by omega)]
  · rw [World.cell?_setCells_out _ _ _ _ _ (fun h => absurd h (by simp))]
    exact p0.cell j
  · rw [World.frozen?_setCells]
    exact p0.free j

set_option maxHeartbeats 16000000 in
theorem opticForm_yes (k : Int) (h1 : 1 ≤ k) (h2 : k ≤ 13) (w : World) : Calls Tryz.prog 72 #[.int .i64 k] w fun e w' => e = .returned (.tuple #[.agg #[.int .i64 (arityI k), .func (.func (fitFn k)) #[] #[]], .bool true]) ∧ Below w.heap.size w w' := by
  obtain ⟨wx, ht, he, hW, hO, hF, hB⟩ := laidOver w 99 112 #[.int .i64 0, .nilFunc] #[.int .i64 0, .nilFunc, .int .i64 0, .nilFunc, .int .i64 0, .nilFunc, .int .i64 0, .nilFunc, .int .i64 0, .nilFunc, .int .i64 0, .nilFunc, .int .i64 0, .nilFunc, .int .i64 0, .nilFunc, .int .i64 0, .nilFunc, .int .i64 0, .nilFunc, .int .i64 0, .nilFunc, .int .i64 0, .nilFunc, .int .i64 0, .nilFunc, .int .i64 0, .nilFunc] formTab (by rw [sizeTab]; rfl)
  have HT := Lib.hid ht
  have HE := Lib.hid he
  have HW := Lib.hid hW
  have HB := Lib.hid hB
  have c0 : wx.cell? ⟨w.heap.size, 0, none⟩ = some (.int .i64 0) := hO 0
  have c1 : wx.cell? ⟨w.heap.size, 1, none⟩ = some .nilFunc := hO 1
  have f0 := hF 0
  have f1 := hF 1
  clear ht he hW hO hF hB
  go_enter Tryz.func72, Tryz.ntmps72
  go_upto_region 3 with fail
  iterate 46 go_step
  refine wpList_store_mid rfl 112 (.tmp 4) (.tmp 25) rfl (w.heap.size + 1) 0 formTab rfl rfl HT.out infoTab allTab ?_
  rw [HE.out]
  have HW' := HW.out
  have hk : k = 1 ∨ k = 2 ∨ k = 3 ∨ k = 4 ∨ k = 5 ∨ k = 6 ∨ k = 7 ∨ k = 8 ∨ k = 9 ∨ k = 10 ∨ k = 11 ∨ k = 12 ∨ k = 13 := by omega
  clear h1 h2 HT HE HW
  rcases hk with rfl | rfl | rfl | rfl | rfl | rfl | rfl | rfl | rfl | rfl | rfl | rfl | rfl
  · have d0 : wx.cell? ⟨w.heap.size + 1, 2, none⟩ = some (.int .i64 0) := HW' 2
    have d1 : wx.cell? ⟨w.heap.size + 1, 3, none⟩ = some (.func (.func 79) #[] #[]) := HW' 3
    clear HW'
    go_wp2
    refine bodyPost_ret (v := .tuple #[.agg #[.int .i64 0, .func (.func 79) #[] #[]], .bool true]) (by simp [results, Tryz.results72, go_sem, c0, c1]) rfl ⟨rfl, (HB.out.setCell (by simp) _).setCell (by simp) _⟩
  · have d0 : wx.cell? ⟨w.heap.size + 1, 4, none⟩ = some (.int .i64 0) := HW' 4
    have d1 : wx.cell? ⟨w.heap.size + 1, 5, none⟩ = some (.func (.func 80) #[] #[]) := HW' 5
    clear HW'
    go_wp2
    refine bodyPost_ret (v := .tuple #[.agg #[.int .i64 0, .func (.func 80) #[] #[]], .bool true]) (by simp [results, Tryz.results72, go_sem, c0, c1]) rfl ⟨rfl, (HB.out.setCell (by simp) _).setCell (by simp) _⟩
  · have d0 : wx.cell? ⟨w.heap.size + 1, 6, none⟩ = some (.int .i64 0) := HW' 6
    have d1 : wx.cell? ⟨w.heap.size + 1, 7, none⟩ = some (.func (.func 80) #[] #[]) := HW' 7
    clear HW'
    go_wp2
    refine bodyPost_ret (v := .tuple #[.agg #[.int .i64 0, .func (.func 80) #[] #[]], .bool true]) (by simp [results, Tryz.results72, go_sem, c0, c1]) rfl ⟨rfl, (HB.out.setCell (by simp) _).setCell (by simp) _⟩
  · have d0 : wx.cell? ⟨w.heap.size + 1, 8, none⟩ = some (.int .i64 0) := HW' 8
    have d1 : wx.cell? ⟨w.heap.size + 1, 9, none⟩ = some (.func (.func 79) #[] #[]) := HW' 9
    clear HW'
    go_wp2
    refine bodyPost_ret (v := .tuple #[.agg #[.int .i64 0, .func (.func 79) #[] #[]], .bool true]) (by simp [results, Tryz.results72, go_sem, c0, c1]) rfl ⟨rfl, (HB.out.setCell (by simp) _).setCell (by simp) _⟩
  · have d0 : wx.cell? ⟨w.heap.size + 1, 10, none⟩ = some (.int .i64 0) := HW' 10
    have d1 : wx.cell? ⟨w.heap.size + 1, 11, none⟩ = some (.func (.func 79) #[] #[]) := HW' 11
    clear HW'
    go_wp2
    refine bodyPost_ret (v := .tuple #[.agg #[.int .i64 0, .func (.func 79) #[] #[]], .bool true]) (by simp [results, Tryz.results72, go_sem, c0, c1]) rfl ⟨rfl, (HB.out.setCell (by simp) _).setCell (by simp) _⟩
  · have d0 : wx.cell? ⟨w.heap.size + 1, 12, none⟩ = some (.int .i64 0) := HW' 12
    have d1 : wx.cell? ⟨w.heap.size + 1, 13, none⟩ = some (.func (.func 81) #[] #[]) := HW' 13
    clear HW'
    go_wp2
    refine bodyPost_ret (v := .tuple #[.agg #[.int .i64 0, .func (.func 81) #[] #[]], .bool true]) (by simp [results, Tryz.results72, go_sem, c0, c1]) rfl ⟨rfl, (HB.out.setCell (by simp) _).setCell (by simp) _⟩
  · have d0 : wx.cell? ⟨w.heap.size + 1, 14, none⟩ = some (.int .i64 0) := HW' 14
    have d1 : wx.cell? ⟨w.heap.size + 1, 15, none⟩ = some (.func (.func 82) #[] #[]) := HW' 15
    clear HW'
    go_wp2
    refine bodyPost_ret (v := .tuple #[.agg #[.int .i64 0, .func (.func 82) #[] #[]], .bool true]) (by simp [results, Tryz.results72, go_sem, c0, c1]) rfl ⟨rfl, (HB.out.setCell (by simp) _).setCell (by simp) _⟩
  · have d0 : wx.cell? ⟨w.heap.size + 1, 16, none⟩ = some (.int .i64 0) := HW' 16
    have d1 : wx.cell? ⟨w.heap.size + 1, 17, none⟩ = some (.func (.func 79) #[] #[]) := HW' 17
    clear HW'
    go_wp2
    refine bodyPost_ret (v := .tuple #[.agg #[.int .i64 0, .func (.func 79) #[] #[]], .bool true]) (by simp [results, Tryz.results72, go_sem, c0, c1]) rfl ⟨rfl, (HB.out.setCell (by simp) _).setCell (by simp) _⟩
  · have d0 : wx.cell? ⟨w.heap.size + 1, 18, none⟩ = some (.int .i64 0) := HW' 18
    have d1 : wx.cell? ⟨w.heap.size + 1, 19, none⟩ = some (.func (.func 79) #[] #[]) := HW' 19
    clear HW'
    go_wp2
    refine bodyPost_ret (v := .tuple #[.agg #[.int .i64 0, .func (.func 79) #[] #[]], .bool true]) (by simp [results, Tryz.results72, go_sem, c0, c1]) rfl ⟨rfl, (HB.out.setCell (by simp) _).setCell (by simp) _⟩
  · have d0 : wx.cell? ⟨w.heap.size + 1, 20, none⟩ = some (.int .i64 0) := HW' 20
    have d1 : wx.cell? ⟨w.heap.size + 1, 21, none⟩ = some (.func (.func 80) #[] #[]) := HW' 21
    clear HW'
    go_wp2
    refine bodyPost_ret (v := .tuple #[.agg #[.int .i64 0, .func (.func 80) #[] #[]], .bool true]) (by simp [results, Tryz.results72, go_sem, c0, c1]) rfl ⟨rfl, (HB.out.setCell (by simp) _).setCell (by simp) _⟩
  · have d0 : wx.cell? ⟨w.heap.size + 1, 22, none⟩ = some (.int .i64 1) := HW' 22
    have d1 : wx.cell? ⟨w.heap.size + 1, 23, none⟩ = some (.func (.func 79) #[] #[]) := HW' 23
    clear HW'
    go_wp2
    refine bodyPost_ret (v := .tuple #[.agg #[.int .i64 1, .func (.func 79) #[] #[]], .bool true]) (by simp [results, Tryz.results72, go_sem, c0, c1]) rfl ⟨rfl, (HB.out.setCell (by simp) _).setCell (by simp) _⟩
  · have d0 : wx.cell? ⟨w.heap.size + 1, 24, none⟩ = some (.int .i64 2) := HW' 24
    have d1 : wx.cell? ⟨w.heap.size + 1, 25, none⟩ = some (.func (.func 79) #[] #[]) := HW' 25
    clear HW'
    go_wp2
    refine bodyPost_ret (v := .tuple #[.agg #[.int .i64 2, .func (.func 79) #[] #[]], .bool true]) (by simp [results, Tryz.results72, go_sem, c0, c1]) rfl ⟨rfl, (HB.out.setCell (by simp) _).setCell (by simp) _⟩
  · have d0 : wx.cell? ⟨w.heap.size + 1, 26, none⟩ = some (.int .i64 2) := HW' 26
    have d1 : wx.cell? ⟨w.heap.size + 1, 27, none⟩ = some (.func (.func 79) #[] #[]) := HW' 27
    clear HW'
    go_wp2
    refine bodyPost_ret (v := .tuple #[.agg #[.int .i64 2, .func (.func 79) #[] #[]], .bool true]) (by simp [results, Tryz.results72, go_sem, c0, c1]) rfl ⟨rfl, (HB.out.setCell (by simp) _).setCell (by simp) _⟩

theorem opticForm_no (k : Int) (h : k < 1 ∨ 13 < k) (w : World) : Calls Tryz.prog 72 #[.int .i64 k] w fun e w' => e = .returned (.tuple #[.agg #[.int .i64 0, .nilFunc], .bool false]) ∧ Below w.heap.size w w' := by
  obtain ⟨hb, p0, hs⟩ := boxes1 w 99 #[.int .i64 0, .nilFunc]
  have c0 := p0.cell 0
  have c1 := p0.cell 1
  have f0 := p0.free 0
  have f1 := p0.free 1
  have HB := Lib.hid hb
  clear hb hs p0
  by_cases h1 : k < 1
  · clear h
    go_enter Tryz.func72, Tryz.ntmps72
    go_wp2
    refine bodyPost_ret (v := .tuple #[.agg #[.int .i64 0, .nilFunc], .bool false]) (by simp [results, Tryz.results72, go_sem, c0, c1]) rfl ⟨rfl, HB.out⟩
  · have h2 : 13 < k := by omega
    clear h
    go_enter Tryz.func72, Tryz.ntmps72
    go_wp2
    refine bodyPost_ret (v := .tuple #[.agg #[.int .i64 0, .nilFunc], .bool false]) (by simp [results, Tryz.results72, go_sem, c0, c1]) rfl ⟨rfl, HB.out⟩

/-- What the function of a kind asks of a name and a number. -/
def fitB (k n : Int) (nm : ByteArray) : Bool := (if k = 2 ∨ k = 3 ∨ k = 10 then isNameB nm else decide (nm.size = 0)) && numOB k n
theorem nodeOB_fit (k n : Int) (nm : ByteArray) (m : Nat) : nodeOB k n nm m = (decide ((m : Int) = arityI k) && fitB k n nm) := by
  unfold nodeOB fitB
  cases decide ((m : Int) = arityI k) <;> simp

set_option maxHeartbeats 1000000 in
theorem kindOnly_any (t : Ot) (v : Value) (w : World) (hv : OtAt w w.heap.size v t) : Calls Tryz.prog 79 #[v] w (BoolIs (decide (t.name.size = 0) && decide (t.num = 0)) w) := by
  obtain ⟨A, ac, rfl, _⟩ := hv.open
  obtain ⟨hb0, p0, hs0⟩ := boxes1 w 26 #[.int .i64 t.kind, .string t.name, .int .i64 t.num, .slice A t.args.length ac]
  clear hv hs0
  by_cases hn : t.name.size = 0
  · have hnil := osize_nil hn
    rw [show (decide (t.name.size = 0) && decide (t.num = 0)) = decide (t.num = 0) by simp [hn]]
    rw [hnil] at p0 hb0 ⊢
    clear hn
    by_cases hm : t.num = 0
    · have i1 : (t.num == 0) = true := by rw [beq_iff_eq]; exact hm
      rw [show decide (t.num = 0) = true by simp [hm]]
      clear hm
      go_enter Tryz.func79, Tryz.ntmps79
      go_wp2
      go_ret
      exact ⟨rfl, hb0⟩
    · have i1 : (t.num == 0) = false := by rw [beq_eq_false_iff_ne]; exact hm
      rw [show decide (t.num = 0) = false by simp [hm]]
      clear hm
      go_enter Tryz.func79, Tryz.ntmps79
      go_wp2
      go_ret
      exact ⟨rfl, hb0⟩
  · have i2 := otoList_nil_no hn
    rw [show (decide (t.name.size = 0) && decide (t.num = 0)) = false by simp [hn]]
    clear hn
    go_enter Tryz.func79, Tryz.ntmps79
    go_wp2
    go_ret
    exact ⟨rfl, hb0⟩

set_option maxHeartbeats 1000000 in
theorem nameOnly_any (t : Ot) (v : Value) (w : World) (hv : OtAt w w.heap.size v t) : Calls Tryz.prog 80 #[v] w (BoolIs (isNameB t.name && decide (t.num = 0)) w) := by
  obtain ⟨A, ac, rfl, hnm, _⟩ := hv.open
  obtain ⟨hb0, p0, hs0⟩ := boxes1 w 26 #[.int .i64 t.kind, .string t.name, .int .i64 t.num, .slice A t.args.length ac]
  have HN := fun W => implIsName_any t.name W hnm
  clear hv hs0
  cases hin : isNameB t.name
  · rw [hin] at HN
    have HN' := Lib.hid HN
    clear HN hin
    go_enter Tryz.func80, Tryz.ntmps80
    go_wp2_with fail
    refine (HN'.out _).mono ?_
    rintro e w1 ⟨rfl, hb1⟩
    go_wp2
    go_ret
    exact ⟨rfl, hb0.trans (hb1.mono hb0.size)⟩
  · rw [hin] at HN
    have HN' := Lib.hid HN
    clear HN hin
    have hpl := p0.lt
    go_enter Tryz.func80, Tryz.ntmps80
    go_wp2_with fail
    generalize w.alloc (.cells #[.int .i64 t.kind, .string t.name, .int .i64 t.num, .slice A t.args.length ac] 26) = w0 at *
    refine (HN'.out _).mono ?_
    rintro e w1 ⟨rfl, hb1⟩
    have c2 : w1.cell? ⟨w.heap.size, 2, none⟩ = some (.int .i64 t.num) := (p0.below hb1 hpl).cell 2
    have hb2 := hb0.trans (hb1.mono hb0.size)
    by_cases hm : t.num = 0
    · have i1 : (t.num == 0) = true := by rw [beq_iff_eq]; exact hm
      have hr := Lib.hid (show decide (t.num = 0) = true by simp [hm])
      clear hm
      go_wp2
      go_ret
      exact ⟨by rw [hr.out]; rfl, hb2⟩
    · have i1 : (t.num == 0) = false := by rw [beq_eq_false_iff_ne]; exact hm
      have hr := Lib.hid (show decide (t.num = 0) = false by simp [hm])
      clear hm
      go_wp2
      go_ret
      exact ⟨by rw [hr.out]; rfl, hb2⟩

set_option maxHeartbeats 1000000 in
theorem indexOnly_any (t : Ot) (v : Value) (w : World) (hv : OtAt w w.heap.size v t) : Calls Tryz.prog 81 #[v] w (BoolIs (decide (t.name.size = 0) && decide (0 ≤ t.num ∧ t.num ≤ 1000)) w) := by
  obtain ⟨A, ac, rfl, _⟩ := hv.open
  obtain ⟨hb0, p0, hs0⟩ := boxes1 w 26 #[.int .i64 t.kind, .string t.name, .int .i64 t.num, .slice A t.args.length ac]
  clear hv hs0
  by_cases hn : t.name.size = 0
  · have hnil := osize_nil hn
    rw [show (decide (t.name.size = 0) && decide (0 ≤ t.num ∧ t.num ≤ 1000)) = decide (0 ≤ t.num ∧ t.num ≤ 1000) by simp [hn]]
    rw [hnil] at p0 hb0 ⊢
    clear hn
    by_cases hm : 0 ≤ t.num
    · have i1 : decide (0 ≤ t.num) = true := by simp; omega
      by_cases hm2 : t.num ≤ 1000
      · have i3 : decide (t.num ≤ 1000) = true := by simp; omega
        rw [show decide (0 ≤ t.num ∧ t.num ≤ 1000) = true from decide_eq_true ⟨hm, hm2⟩]
        go_enter Tryz.func81, Tryz.ntmps81
        go_wp2
        go_ret
        exact ⟨rfl, hb0⟩
      · have i3 : decide (t.num ≤ 1000) = false := by simp; omega
        rw [show decide (0 ≤ t.num ∧ t.num ≤ 1000) = false from decide_eq_false fun h => hm2 h.2]
        clear hm2
        go_enter Tryz.func81, Tryz.ntmps81
        go_wp2
        go_ret
        exact ⟨rfl, hb0⟩
    · have i1 : decide (0 ≤ t.num) = false := by simp; omega
      rw [show decide (0 ≤ t.num ∧ t.num ≤ 1000) = false from decide_eq_false fun h => hm h.1]
      clear hm
      go_enter Tryz.func81, Tryz.ntmps81
      go_wp2
      go_ret
      exact ⟨rfl, hb0⟩
  · have i2 := otoList_nil_no hn
    rw [show (decide (t.name.size = 0) && decide (0 ≤ t.num ∧ t.num ≤ 1000)) = false by simp [hn]]
    clear hn
    go_enter Tryz.func81, Tryz.ntmps81
    go_wp2
    go_ret
    exact ⟨rfl, hb0⟩

set_option maxHeartbeats 1000000 in
theorem summandOnly_any (t : Ot) (v : Value) (w : World) (hv : OtAt w w.heap.size v t) : Calls Tryz.prog 82 #[v] w (BoolIs (decide (t.name.size = 0) && decide (-1000 ≤ t.num ∧ t.num ≤ 1000)) w) := by
  obtain ⟨A, ac, rfl, _⟩ := hv.open
  obtain ⟨hb0, p0, hs0⟩ := boxes1 w 26 #[.int .i64 t.kind, .string t.name, .int .i64 t.num, .slice A t.args.length ac]
  clear hv hs0
  by_cases hn : t.name.size = 0
  · have hnil := osize_nil hn
    rw [show (decide (t.name.size = 0) && decide (-1000 ≤ t.num ∧ t.num ≤ 1000)) = decide (-1000 ≤ t.num ∧ t.num ≤ 1000) by simp [hn]]
    rw [hnil] at p0 hb0 ⊢
    clear hn
    by_cases hm : -1000 ≤ t.num
    · have i1 : decide (-1000 ≤ t.num) = true := by simp; omega
      by_cases hm2 : t.num ≤ 1000
      · have i3 : decide (t.num ≤ 1000) = true := by simp; omega
        rw [show decide (-1000 ≤ t.num ∧ t.num ≤ 1000) = true from decide_eq_true ⟨hm, hm2⟩]
        go_enter Tryz.func82, Tryz.ntmps82
        go_wp2
        go_ret
        exact ⟨rfl, hb0⟩
      · have i3 : decide (t.num ≤ 1000) = false := by simp; omega
        rw [show decide (-1000 ≤ t.num ∧ t.num ≤ 1000) = false from decide_eq_false fun h => hm2 h.2]
        clear hm2
        go_enter Tryz.func82, Tryz.ntmps82
        go_wp2
        go_ret
        exact ⟨rfl, hb0⟩
    · have i1 : decide (-1000 ≤ t.num) = false := by simp; omega
      rw [show decide (-1000 ≤ t.num ∧ t.num ≤ 1000) = false from decide_eq_false fun h => hm h.1]
      clear hm
      go_enter Tryz.func82, Tryz.ntmps82
      go_wp2
      go_ret
      exact ⟨rfl, hb0⟩
  · have i2 := otoList_nil_no hn
    rw [show (decide (t.name.size = 0) && decide (-1000 ≤ t.num ∧ t.num ≤ 1000)) = false by simp [hn]]
    clear hn
    go_enter Tryz.func82, Tryz.ntmps82
    go_wp2
    go_ret
    exact ⟨rfl, hb0⟩

theorem fit_any (k : Int) (t : Ot) (v : Value) (w : World) (hv : OtAt w w.heap.size v t) : Calls Tryz.prog (fitFn k) #[v] w (BoolIs (fitB k t.num t.name) w) := by
  unfold fitFn fitB numOB
  by_cases h1 : k = 2 ∨ k = 3 ∨ k = 10
  · rw [if_pos h1, if_pos h1, if_neg (by omega), if_neg (by omega)]
    exact nameOnly_any t v w hv
  · rw [if_neg h1, if_neg h1]
    by_cases h2 : k = 6
    · rw [if_pos h2, if_pos h2]
      exact indexOnly_any t v w hv
    · rw [if_neg h2, if_neg h2]
      by_cases h3 : k = 7
      · rw [if_pos h3, if_pos h3]
        exact summandOnly_any t v w hv
      · rw [if_neg h3, if_neg h3]
        exact kindOnly_any t v w hv

set_option maxHeartbeats 4000000 in
theorem hasForm_any (t : Ot) (v : Value) (w : World) (hv : OtAt w w.heap.size v t) : Calls Tryz.prog 61 #[v] w (BoolIs (nodeOB t.kind t.num t.name t.args.length) w) := by
  have hv0 := hv
  rw [nodeOB_fit]
  obtain ⟨A, ac, rfl, _, ha⟩ := hv.open
  have hm := ha.1
  unfold maxLen at hm
  obtain ⟨hb0, p0, hs0⟩ := boxes1 w 26 #[.int .i64 t.kind, .string t.name, .int .i64 t.num, .slice A t.args.length ac]
  have hv1 := hv0.up hb0
  have hpl := p0.lt
  clear hv hv0 ha hs0
  by_cases hk : 1 ≤ t.kind ∧ t.kind ≤ 13
  · have HF0 := fun W => opticForm_yes t.kind hk.1 hk.2 W
    have HT0 := fun V W h => fit_any t.kind t V W h
    have hcl : fitFn t.kind = 79 ∨ fitFn t.kind = 80 ∨ fitFn t.kind = 81 ∨ fitFn t.kind = 82 := by unfold fitFn; split; exact .inr (.inl rfl); split; exact .inr (.inr (.inl rfl)); split; exact .inr (.inr (.inr rfl)); exact .inl rfl
    clear hk
    rcases hcl with hf | hf | hf | hf
    · rw [hf] at HF0 HT0
      have HF := Lib.hid HF0
      have HT1 := Lib.hid HT0
      clear hf HF0 HT0
      go_enter Tryz.func61, Tryz.ntmps61
      go_wp2_with fail
      generalize w.alloc (.cells #[.int .i64 t.kind, .string t.name, .int .i64 t.num, .slice A t.args.length ac] 26) = w0 at *
      refine (HF.out _).mono ?_
      rintro e w1 ⟨rfl, hb1⟩
      have p1 := p0.below hb1 hpl
      have hv2 := hv1.up hb1
      have hb1' := hb0.trans (hb1.mono hb0.size)
      have hpl1 := p1.lt
      obtain ⟨hb2, q2, hs2⟩ := boxes1 w1 99 #[.int .i64 (arityI t.kind), .func (.func 79) #[] #[]]
      have hv3 := hv2.up hb2
      have hb2' := hb1'.trans (hb2.mono hb1'.size)
      have c0 : w1.cell? ⟨w.heap.size, 0, none⟩ = some (.int .i64 t.kind) := p1.cell 0
      have c1 : w1.cell? ⟨w.heap.size, 1, none⟩ = some (.string t.name) := p1.cell 1
      have c2 : w1.cell? ⟨w.heap.size, 2, none⟩ = some (.int .i64 t.num) := p1.cell 2
      have c3 : w1.cell? ⟨w.heap.size, 3, none⟩ = some (.slice A t.args.length ac) := p1.cell 3
      clear hs2 hv2 p0 hv1
      by_cases hl : (t.args.length : Int) = arityI t.kind
      · have i3 : ((t.args.length : Int) == arityI t.kind) = true := by rw [beq_iff_eq]; exact hl
        have hr := Lib.hid (show (decide ((t.args.length : Int) = arityI t.kind) && fitB t.kind t.num t.name) = fitB t.kind t.num t.name by rw [decide_eq_true hl, Bool.true_and])
        have HT := Lib.hid (HT1.out _ _ hv3)
        clear hl hv3
        go_wp2_with fail
        refine HT.out.mono ?_
        rintro e w3 ⟨rfl, hb3⟩
        go_wp2
        go_ret
        exact ⟨by rw [hr.out]; rfl, hb2'.trans (hb3.mono hb2'.size)⟩
      · have i3 : ((t.args.length : Int) == arityI t.kind) = false := by rw [beq_eq_false_iff_ne]; exact hl
        have hr := Lib.hid (show (decide ((t.args.length : Int) = arityI t.kind) && fitB t.kind t.num t.name) = false by rw [decide_eq_false hl, Bool.false_and])
        clear hl hv3
        go_wp2
        go_ret
        exact ⟨by rw [hr.out]; rfl, hb2'⟩
    · rw [hf] at HF0 HT0
      have HF := Lib.hid HF0
      have HT1 := Lib.hid HT0
      clear hf HF0 HT0
      go_enter Tryz.func61, Tryz.ntmps61
      go_wp2_with fail
      generalize w.alloc (.cells #[.int .i64 t.kind, .string t.name, .int .i64 t.num, .slice A t.args.length ac] 26) = w0 at *
      refine (HF.out _).mono ?_
      rintro e w1 ⟨rfl, hb1⟩
      have p1 := p0.below hb1 hpl
      have hv2 := hv1.up hb1
      have hb1' := hb0.trans (hb1.mono hb0.size)
      have hpl1 := p1.lt
      obtain ⟨hb2, q2, hs2⟩ := boxes1 w1 99 #[.int .i64 (arityI t.kind), .func (.func 80) #[] #[]]
      have hv3 := hv2.up hb2
      have hb2' := hb1'.trans (hb2.mono hb1'.size)
      have c0 : w1.cell? ⟨w.heap.size, 0, none⟩ = some (.int .i64 t.kind) := p1.cell 0
      have c1 : w1.cell? ⟨w.heap.size, 1, none⟩ = some (.string t.name) := p1.cell 1
      have c2 : w1.cell? ⟨w.heap.size, 2, none⟩ = some (.int .i64 t.num) := p1.cell 2
      have c3 : w1.cell? ⟨w.heap.size, 3, none⟩ = some (.slice A t.args.length ac) := p1.cell 3
      clear hs2 hv2 p0 hv1
      by_cases hl : (t.args.length : Int) = arityI t.kind
      · have i3 : ((t.args.length : Int) == arityI t.kind) = true := by rw [beq_iff_eq]; exact hl
        have hr := Lib.hid (show (decide ((t.args.length : Int) = arityI t.kind) && fitB t.kind t.num t.name) = fitB t.kind t.num t.name by rw [decide_eq_true hl, Bool.true_and])
        have HT := Lib.hid (HT1.out _ _ hv3)
        clear hl hv3
        go_wp2_with fail
        refine HT.out.mono ?_
        rintro e w3 ⟨rfl, hb3⟩
        go_wp2
        go_ret
        exact ⟨by rw [hr.out]; rfl, hb2'.trans (hb3.mono hb2'.size)⟩
      · have i3 : ((t.args.length : Int) == arityI t.kind) = false := by rw [beq_eq_false_iff_ne]; exact hl
        have hr := Lib.hid (show (decide ((t.args.length : Int) = arityI t.kind) && fitB t.kind t.num t.name) = false by rw [decide_eq_false hl, Bool.false_and])
        clear hl hv3
        go_wp2
        go_ret
        exact ⟨by rw [hr.out]; rfl, hb2'⟩
    · rw [hf] at HF0 HT0
      have HF := Lib.hid HF0
      have HT1 := Lib.hid HT0
      clear hf HF0 HT0
      go_enter Tryz.func61, Tryz.ntmps61
      go_wp2_with fail
      generalize w.alloc (.cells #[.int .i64 t.kind, .string t.name, .int .i64 t.num, .slice A t.args.length ac] 26) = w0 at *
      refine (HF.out _).mono ?_
      rintro e w1 ⟨rfl, hb1⟩
      have p1 := p0.below hb1 hpl
      have hv2 := hv1.up hb1
      have hb1' := hb0.trans (hb1.mono hb0.size)
      have hpl1 := p1.lt
      obtain ⟨hb2, q2, hs2⟩ := boxes1 w1 99 #[.int .i64 (arityI t.kind), .func (.func 81) #[] #[]]
      have hv3 := hv2.up hb2
      have hb2' := hb1'.trans (hb2.mono hb1'.size)
      have c0 : w1.cell? ⟨w.heap.size, 0, none⟩ = some (.int .i64 t.kind) := p1.cell 0
      have c1 : w1.cell? ⟨w.heap.size, 1, none⟩ = some (.string t.name) := p1.cell 1
      have c2 : w1.cell? ⟨w.heap.size, 2, none⟩ = some (.int .i64 t.num) := p1.cell 2
      have c3 : w1.cell? ⟨w.heap.size, 3, none⟩ = some (.slice A t.args.length ac) := p1.cell 3
      clear hs2 hv2 p0 hv1
      by_cases hl : (t.args.length : Int) = arityI t.kind
      · have i3 : ((t.args.length : Int) == arityI t.kind) = true := by rw [beq_iff_eq]; exact hl
        have hr := Lib.hid (show (decide ((t.args.length : Int) = arityI t.kind) && fitB t.kind t.num t.name) = fitB t.kind t.num t.name by rw [decide_eq_true hl, Bool.true_and])
        have HT := Lib.hid (HT1.out _ _ hv3)
        clear hl hv3
        go_wp2_with fail
        refine HT.out.mono ?_
        rintro e w3 ⟨rfl, hb3⟩
        go_wp2
        go_ret
        exact ⟨by rw [hr.out]; rfl, hb2'.trans (hb3.mono hb2'.size)⟩
      · have i3 : ((t.args.length : Int) == arityI t.kind) = false := by rw [beq_eq_false_iff_ne]; exact hl
        have hr := Lib.hid (show (decide ((t.args.length : Int) = arityI t.kind) && fitB t.kind t.num t.name) = false by rw [decide_eq_false hl, Bool.false_and])
        clear hl hv3
        go_wp2
        go_ret
        exact ⟨by rw [hr.out]; rfl, hb2'⟩
    · rw [hf] at HF0 HT0
      have HF := Lib.hid HF0
      have HT1 := Lib.hid HT0
      clear hf HF0 HT0
      go_enter Tryz.func61, Tryz.ntmps61
      go_wp2_with fail
      generalize w.alloc (.cells #[.int .i64 t.kind, .string t.name, .int .i64 t.num, .slice A t.args.length ac] 26) = w0 at *
      refine (HF.out _).mono ?_
      rintro e w1 ⟨rfl, hb1⟩
      have p1 := p0.below hb1 hpl
      have hv2 := hv1.up hb1
      have hb1' := hb0.trans (hb1.mono hb0.size)
      have hpl1 := p1.lt
      obtain ⟨hb2, q2, hs2⟩ := boxes1 w1 99 #[.int .i64 (arityI t.kind), .func (.func 82) #[] #[]]
      have hv3 := hv2.up hb2
      have hb2' := hb1'.trans (hb2.mono hb1'.size)
      have c0 : w1.cell? ⟨w.heap.size, 0, none⟩ = some (.int .i64 t.kind) := p1.cell 0
      have c1 : w1.cell? ⟨w.heap.size, 1, none⟩ = some (.string t.name) := p1.cell 1
      have c2 : w1.cell? ⟨w.heap.size, 2, none⟩ = some (.int .i64 t.num) := p1.cell 2
      have c3 : w1.cell? ⟨w.heap.size, 3, none⟩ = some (.slice A t.args.length ac) := p1.cell 3
      clear hs2 hv2 p0 hv1
      by_cases hl : (t.args.length : Int) = arityI t.kind
      · have i3 : ((t.args.length : Int) == arityI t.kind) = true := by rw [beq_iff_eq]; exact hl
        have hr := Lib.hid (show (decide ((t.args.length : Int) = arityI t.kind) && fitB t.kind t.num t.name) = fitB t.kind t.num t.name by rw [decide_eq_true hl, Bool.true_and])
        have HT := Lib.hid (HT1.out _ _ hv3)
        clear hl hv3
        go_wp2_with fail
        refine HT.out.mono ?_
        rintro e w3 ⟨rfl, hb3⟩
        go_wp2
        go_ret
        exact ⟨by rw [hr.out]; rfl, hb2'.trans (hb3.mono hb2'.size)⟩
      · have i3 : ((t.args.length : Int) == arityI t.kind) = false := by rw [beq_eq_false_iff_ne]; exact hl
        have hr := Lib.hid (show (decide ((t.args.length : Int) = arityI t.kind) && fitB t.kind t.num t.name) = false by rw [decide_eq_false hl, Bool.false_and])
        clear hl hv3
        go_wp2
        go_ret
        exact ⟨by rw [hr.out]; rfl, hb2'⟩
  · have HF := Lib.hid (fun W => opticForm_no t.kind (by omega) W)
    rw [show decide ((t.args.length : Int) = arityI t.kind) = false from decide_eq_false (by unfold arityI; rw [if_neg (by omega), if_neg (by omega), if_neg (by omega)]; omega), Bool.false_and]
    clear hk
    go_enter Tryz.func61, Tryz.ntmps61
    go_wp2_with fail
    generalize w.alloc (.cells #[.int .i64 t.kind, .string t.name, .int .i64 t.num, .slice A t.args.length ac] 26) = w0 at *
    refine (HF.out _).mono ?_
    rintro e w1 ⟨rfl, hb1⟩
    have hb1' := hb0.trans (hb1.mono hb0.size)
    go_wp2
    go_ret
    exact ⟨rfl, hb1'.alloc hb1'.size _⟩

theorem depthOts_le (m : Nat) : ∀ (ts : List Ot), (∀ i, (h : i < ts.length) → depthOt ts[i] ≤ m) → depthOts ts ≤ m
  | [], _ => by rw [depthOts]; omega
  | t :: r, h => by
    rw [depthOts]
    have h0 : depthOt t ≤ m := h 0 (by simp)
    have := depthOts_le m r fun i hi => h (i + 1) (by simpa using hi)
    omega
theorem depthOts_at : ∀ (ts : List Ot) (i : Nat) (h : i < ts.length), depthOt ts[i] ≤ depthOts ts
  | t :: r, 0, _ => by
    rw [depthOts]
    simp only [List.getElem_cons_zero]
    omega
  | t :: r, i + 1, h => by
    rw [depthOts]
    have := depthOts_at r i (by simpa using h)
    simp only [List.getElem_cons_succ]
    omega

/-- Has it forms, and a depth of at most d? -/
def deepB (t : Ot) (d : Int) : Bool := decide ((depthOt t : Int) ≤ d) && formOt t
def DeepOne (t : Ot) : Prop := ∀ (d : Int) (v : Value) (w : World), 0 ≤ d → d ≤ 10 → OtAt w w.heap.size v t → Calls Tryz.prog 32 #[v, .int .i64 d] w (BoolIs (deepB t d) w)

set_option maxHeartbeats 4000000 in
theorem hasForms_of (t : Ot) (hall : ∀ i, (h : i < t.args.length) → DeepOne t.args[i]) : DeepOne t := by
  intro d v w hd0 hd1 hv
  have hv0 := hv
  have hde := depthOt_eq t
  have hfe := formOt_eq t
  have HN0 := fun W h => hasForm_any t v W h
  obtain ⟨A, ac, rfl, _, ha⟩ := hv.open
  have hm := ha.1
  unfold maxLen at hm
  obtain ⟨hb0, p0, hs0⟩ := boxes1 w 26 #[.int .i64 t.kind, .string t.name, .int .i64 t.num, .slice A t.args.length ac]
  have hv1 := hv0.up hb0
  have ha0 := ha.up hb0
  have hpl := p0.lt
  have HALL := Lib.hid hall
  have HDE := Lib.hid hde
  have HFE := Lib.hid hfe
  clear hv hv0 hs0 hall hde hfe ha
  by_cases hz : d = 0
  · subst hz
    have hr := Lib.hid (show deepB t 0 = false by unfold deepB; rw [decide_eq_false (by have := HDE.out; omega), Bool.false_and])
    clear hd0 hd1
    go_enter Tryz.func32, Tryz.ntmps32
    go_wp2
    go_ret
    exact ⟨by rw [hr.out]; rfl, hb0⟩
  · have i0 : (d == 0) = false := by rw [beq_eq_false_iff_ne]; exact hz
    cases hn : nodeOB t.kind t.num t.name t.args.length
    · rw [hn] at HN0
      have HN := Lib.hid HN0
      have hr := Lib.hid (show deepB t d = false by unfold deepB; rw [HFE.out, hn, Bool.and_false, Bool.and_false])
      clear hn HN0
      go_enter Tryz.func32, Tryz.ntmps32
      go_wp2_with fail
      refine (HN.out _ hv1).mono ?_
      rintro e w1 ⟨rfl, hb1⟩
      go_wp2
      go_ret
      exact ⟨by rw [hr.out]; rfl, hb0.trans (hb1.mono hb0.size)⟩
    · rw [hn] at HN0
      have HN := Lib.hid HN0
      have hfo := Lib.hid (show formOt t = formOts t.args by rw [HFE.out, hn, Bool.and_true])
      clear hn HN0
      go_enter Tryz.func32, Tryz.ntmps32
      go_wp2_with fail
      generalize w.alloc (.cells #[.int .i64 t.kind, .string t.name, .int .i64 t.num, .slice A t.args.length ac] 26) = w0 at *
      refine (HN.out _ hv1).mono ?_
      rintro e w1 ⟨rfl, hb1⟩
      have p1 := p0.below hb1 hpl
      have ha1 := ha0.up hb1
      have hb1' := hb0.trans (hb1.mono hb0.size)
      have hpl1 := p1.lt
      have c3 : w1.cell? ⟨w.heap.size, 3, none⟩ = some (.slice A t.args.length ac) := p1.cell 3
      clear p0 ha0 hv1
      go_wp2
      go_loopw [17] (fun i wr => ∃ k : Nat, k ≤ t.args.length ∧ i = .int .i64 k ∧ (∀ j, (hj : j < t.args.length) → j < k → deepB t.args[j] (d - 1) = true) ∧ Below w1.heap.size w1 wr) (fun i _ => t.args.length - (intOf i).toNat)
      case atStart => exact ⟨0, Nat.zero_le _, rfl, fun j _ h => absurd h (by omega), Below.refl _ _⟩
      case round =>
        obtain ⟨k, hk, rfl, hall, hb⟩ := hrel
        have HA := Lib.hid hall
        clear hall
        by_cases hlt : k < t.args.length
        · obtain ⟨b, off, A1, ac1, rfl, hbl, q0, q1, q2, q3, ht⟩ := (ha1.below hb).elem k hlt
          have hbx : Below wr.heap.size wr (wr.alloc (.cells #[.int .i64 t.args[k].kind, .string t.args[k].name, .int .i64 t.args[k].num, .slice A1 t.args[k].args.length ac1] 26)) := (Below.refl _ _).alloc (Nat.le_refl _) _
          have hbx' := hb.trans (hbx.mono hb.size)
          have HT := HALL.out k hlt (d - 1) _ _ (by omega) (by omega) ((ht.more hb.size).up hbx)
          cases hfk : deepB t.args[k] (d - 1)
          · rw [hfk] at HT
            have HT' := Lib.hid HT
            have hr := Lib.hid (show deepB t d = false by
              unfold deepB at hfk ⊢
              rw [hfo.out]
              by_cases h2 : (depthOt t : Int) ≤ d
              · have h3 := depthOts_at t.args k hlt
                have h4 := HDE.out
                rw [decide_eq_true (by omega), Bool.true_and] at hfk
                rw [formOts_no t.args k hlt hfk, Bool.and_false]
              · rw [decide_eq_false h2, Bool.false_and])
            clear ht HT hfk
            go_wp2_with fail
            refine HT'.out.mono ?_
            rintro e w2 ⟨rfl, hb2⟩
            go_wp2
            go_ret
            exact ⟨by rw [hr.out]; rfl, hb1'.trans ((hbx'.trans (hb2.mono hbx'.size)).mono hb1'.size)⟩
          · rw [hfk] at HT
            have HT' := Lib.hid HT
            have HK := Lib.hid hfk
            clear ht HT hfk
            go_wp2_with fail
            refine HT'.out.mono ?_
            rintro e w2 ⟨rfl, hb2⟩
            go_wp2
            go_roundw
            case rel =>
              refine ⟨k + 1, by omega, by go_num, fun j hj h => ?_, hbx'.trans (hb2.mono hbx'.size)⟩
              by_cases e : j = k
              · subst e
                exact HK.out
              · exact HA.out j hj (by omega)
            case measure => simp [intOf]; omega
        · have hr := Lib.hid (show deepB t d = true by
            have h1 : ∀ i, (hi : i < t.args.length) → (depthOt t.args[i] : Int) ≤ d - 1 ∧ formOt t.args[i] = true := fun i hi => by
              have := HA.out i hi (by omega)
              unfold deepB at this
              rw [Bool.and_eq_true, decide_eq_true_eq] at this
              exact this
            have h2 := depthOts_le (d - 1).toNat t.args fun i hi => by have := (h1 i hi).1; omega
            have h3 := HDE.out
            unfold deepB
            rw [hfo.out, formOts_all t.args fun i hi => (h1 i hi).2, decide_eq_true (by omega), Bool.true_and])
          go_wp2
          go_ret
          exact ⟨by rw [hr.out]; rfl, hb1'.trans (hb.mono hb1'.size)⟩

theorem hasForms_any (t : Ot) : DeepOne t := by
  induction t using Ot.ind with
  | h k n nm ts ih => exact hasForms_of (.mk k n nm ts) ih

set_option maxHeartbeats 1000000 in
theorem implIsOptic_any (t : Ot) (v : Value) (w : World) (hv : OwnO w v t) (hsz : sizeOt t ≤ 2000000) : Calls Tryz.prog 15 #[v] w (BoolIs (opticB t) w) := by
  have HF0 := fun W h => hasForms_any t 10 v W (by omega) (by omega) h
  have HS := Lib.hid (fun W h => O.implSizeO_any t v W h hsz)
  obtain ⟨A, ac, hvv, _⟩ := hv.open
  subst hvv
  obtain ⟨hb0, p0, hs0⟩ := boxes1 w 26 #[.int .i64 t.kind, .string t.name, .int .i64 t.num, .slice A t.args.length ac]
  have hv1 := hv.up hb0
  have hpl := p0.lt
  clear hv hs0
  cases hd : deepB t 10
  · rw [hd] at HF0
    have HF := Lib.hid HF0
    have hr := Lib.hid (show opticB t = false by
      unfold opticB
      unfold deepB at hd
      by_cases h10 : depthOt t ≤ 10
      · rw [decide_eq_true (by omega), Bool.true_and] at hd
        rw [hd, Bool.and_false]
      · rw [decide_eq_false h10, Bool.and_false, Bool.false_and])
    clear hd HF0
    go_enter Tryz.func15, Tryz.ntmps15
    go_wp2_with fail
    refine (HF.out _ hv1.here).mono ?_
    rintro e w1 ⟨rfl, hb1⟩
    go_wp2
    go_ret
    exact ⟨by rw [hr.out]; rfl, hb0.trans (hb1.mono hb0.size)⟩
  · rw [hd] at HF0
    have HF := Lib.hid HF0
    have hr0 := Lib.hid (show opticB t = decide (sizeOt t ≤ 20) by
      unfold opticB
      unfold deepB at hd
      rw [Bool.and_eq_true, decide_eq_true_eq] at hd
      rw [hd.2, decide_eq_true (show depthOt t ≤ 10 by have := hd.1; omega), Bool.and_true, Bool.and_true])
    clear hd HF0
    go_enter Tryz.func15, Tryz.ntmps15
    go_wp2_with fail
    generalize w.alloc (.cells #[.int .i64 t.kind, .string t.name, .int .i64 t.num, .slice A t.args.length ac] 26) = w0 at *
    refine (HF.out _ hv1.here).mono ?_
    rintro e w1 ⟨rfl, hb1⟩
    have p1 := p0.below hb1 hpl
    have hv2 := hv1.up hb1
    have hb1' := hb0.trans (hb1.mono hb0.size)
    have c0 : w1.cell? ⟨w.heap.size, 0, none⟩ = some (.int .i64 t.kind) := p1.cell 0
    have c1 : w1.cell? ⟨w.heap.size, 1, none⟩ = some (.string t.name) := p1.cell 1
    have c2 : w1.cell? ⟨w.heap.size, 2, none⟩ = some (.int .i64 t.num) := p1.cell 2
    have c3 : w1.cell? ⟨w.heap.size, 3, none⟩ = some (.slice A t.args.length ac) := p1.cell 3
    go_wp2_with fail
    refine (HS.out _ hv2).mono ?_
    rintro e w2 ⟨rfl, hb2⟩
    by_cases h20 : sizeOt t ≤ 20
    · have i1 : decide ((sizeOt t : Int) ≤ 20) = true := by simp; omega
      have hr := Lib.hid (show opticB t = true by rw [hr0.out, decide_eq_true h20])
      go_wp2
      go_ret
      exact ⟨by rw [hr.out]; rfl, hb1'.trans (hb2.mono hb1'.size)⟩
    · have i1 : decide ((sizeOt t : Int) ≤ 20) = false := by simp; omega
      have hr := Lib.hid (show opticB t = false by rw [hr0.out, decide_eq_false h20])
      go_wp2
      go_ret
      exact ⟨by rw [hr.out]; rfl, hb1'.trans (hb2.mono hb1'.size)⟩

end Go.Proofs.YtlmbnefoobameaaGreatDoor
end

section
namespace Go.Proofs.YtlmbnefoobameaaGreatDoor
open Go Go.RowKit

/-- The table of powers lies below. -/
def TabO (w : World) : Prop := Pow10At w ∧ 0 < w.heap.size
theorem TabO.below {w w' : World} (h : TabO w) (hb : Below w.heap.size w w') : TabO w' := ⟨h.1.below hb h.2, Nat.lt_of_lt_of_le h.2 hb.size⟩
def TextOI (t : Ot) : Prop := ∀ (v : Value) (w : World), OtAt w w.heap.size v t → formOt t = true → sizeOt t ≤ 1000 → TabO w → Calls Tryz.prog 16 #[v] w (StrIs ⟨(txtO t).toArray⟩ w)
theorem byte5p (a : List UInt8) (s : ByteArray) (b : List UInt8) : (⟨#[40]⟩ ++ ⟨a.toArray⟩ ++ s ++ ⟨b.toArray⟩ ++ ⟨#[41]⟩ : ByteArray) = ⟨(40 :: (a ++ (s.data.toList ++ (b ++ [41])))).toArray⟩ := by
  apply ByteArray.ext
  simp only [ByteArray.data_append]
  apply Array.toList_inj.1
  simp
theorem below_drewO {w w' : World} {n : Nat} (h : Below n w.drew w') : Below n w w' := ⟨h.os, h.tape, h.output, h.size, h.block⟩

section
attribute [local go_sem ↓] Go.wp_at_zero Go.wp_at_succ
set_option maxHeartbeats 8000000 in
set_option maxRecDepth 100000 in
theorem pairText_any (k0 n0 : Int) (nm : ByteArray) (a b : Ot) (sg : ByteArray) (hsg : sg.size ≤ 8) (ha : TextOI a) (hb : TextOI b) (hfa : formOt a = true) (hfb : formOt b = true) (hsa : sizeOt a ≤ 1000) (hsb : sizeOt b ≤ 1000) (v : Value) (w : World) (hv : OtAt w w.heap.size v (.mk k0 n0 nm [a, b])) (ht : TabO w) :
    Calls Tryz.prog 35 #[v, .string sg] w (StrIs ⟨(40 :: (txtO a ++ (sg.data.toList ++ (txtO b ++ [41])))).toArray⟩ w) := by
  obtain ⟨A, ac, rfl, _, hts⟩ := hv.open
  simp only [Ot.kind, Ot.num, Ot.name, Ot.args, List.length_cons, List.length_nil, Nat.zero_add, Nat.reduceAdd] at *
  obtain ⟨b0, off, A1, ac1, rfl, hbl, q0, q2, q1, q3, hta⟩ := hts.elem 0 (by simp)
  obtain ⟨b0', off', A2, ac2, he, _, q4, q6, q5, q7, htb⟩ := hts.elem 1 (by simp)
  obtain ⟨rfl, rfl⟩ : b0 = b0' ∧ off = off' := by injection he with he; injection he with h1 h2; exact ⟨h1, h2⟩
  simp only [List.getElem_cons_zero, List.getElem_cons_succ, Nat.zero_mul, Nat.add_zero, Nat.one_mul, Nat.add_assoc, Nat.reduceAdd] at q0 q1 q2 q3 q4 q5 q6 q7 hta htb
  obtain ⟨hb0, p0, hs0⟩ := boxes1 w 26 #[.int .i64 k0, .string nm, .int .i64 n0, .slice (some ⟨b0, off, none⟩) 2 ac]
  have HTA := Lib.hid (hta.lift hb0 |>.more hb0.size)
  have HTB := Lib.hid (htb.lift hb0 |>.more hb0.size)
  have HTT := Lib.hid (ht.below hb0)
  have HQ0 := Lib.hid ((hb0.cell (p := ⟨b0, off, none⟩) hbl).trans q0)
  have HQ1 := Lib.hid ((hb0.cell (p := ⟨b0, off + 1, none⟩) hbl).trans q1)
  have HQ2 := Lib.hid ((hb0.cell (p := ⟨b0, off + 2, none⟩) hbl).trans q2)
  have HQ3 := Lib.hid ((hb0.cell (p := ⟨b0, off + 3, none⟩) hbl).trans q3)
  have HQ4 := Lib.hid ((hb0.cell (p := ⟨b0, off + 4, none⟩) hbl).trans q4)
  have HQ5 := Lib.hid ((hb0.cell (p := ⟨b0, off + 5, none⟩) hbl).trans q5)
  have HQ6 := Lib.hid ((hb0.cell (p := ⟨b0, off + 6, none⟩) hbl).trans q6)
  have HQ7 := Lib.hid ((hb0.cell (p := ⟨b0, off + 7, none⟩) hbl).trans q7)
  have HC3 := Lib.hid (show (w.alloc (.cells #[.int .i64 k0, .string nm, .int .i64 n0, .slice (some ⟨b0, off, none⟩) 2 ac] 26)).cell? ⟨w.heap.size, 3, none⟩ = some (.slice (some ⟨b0, off, none⟩) 2 ac) from p0.cell 3)
  have HBL := Lib.hid (show w.heap.size < (w.alloc (.cells #[.int .i64 k0, .string nm, .int .i64 n0, .slice (some ⟨b0, off, none⟩) 2 ac] 26)).heap.size ∧ b0 < (w.alloc (.cells #[.int .i64 k0, .string nm, .int .i64 n0, .slice (some ⟨b0, off, none⟩) 2 ac] 26)).heap.size from ⟨p0.lt, by have := hb0.size; omega⟩)
  have HA := Lib.hid (fun W (h : Below (w.alloc (.cells #[.int .i64 k0, .string nm, .int .i64 n0, .slice (some ⟨b0, off, none⟩) 2 ac] 26)).heap.size (w.alloc (.cells #[.int .i64 k0, .string nm, .int .i64 n0, .slice (some ⟨b0, off, none⟩) 2 ac] 26)) W) => ha _ W ((HTA.out.lift h).more h.size) hfa (by omega) (HTT.out.below h))
  have HB := Lib.hid (fun W (h : Below (w.alloc (.cells #[.int .i64 k0, .string nm, .int .i64 n0, .slice (some ⟨b0, off, none⟩) 2 ac] 26)).heap.size (w.alloc (.cells #[.int .i64 k0, .string nm, .int .i64 n0, .slice (some ⟨b0, off, none⟩) 2 ac] 26)) W) => hb _ W ((HTB.out.lift h).more h.size) hfb (by omega) (HTT.out.below h))
  have hla := txtO_len a hfa
  have hlb := txtO_len b hfb
  have HE := Lib.hid (byte5p (txtO a) sg (txtO b))
  have HB0 := Lib.hid hb0
  clear ha hb hv hts hta htb q0 q1 q2 q3 q4 q5 q6 q7 hb0 p0 hs0 he ht
  go_enter Tryz.func35, Tryz.ntmps35
  go_upto_region 1 with fail
  generalize w.alloc (.cells #[.int .i64 k0, .string nm, .int .i64 n0, .slice (some ⟨b0, off, none⟩) 2 ac] 26) = w0 at *
  generalize txtO a = ta at *
  generalize txtO b = tb at *
  have hj1 : ¬ 9223372036854775807 < 1 + ta.length := by omega
  have hj2 : ¬ 9223372036854775807 < 1 + ta.length + sg.size := by omega
  have hj3 : ¬ 9223372036854775807 < 1 + ta.length + sg.size + tb.length := by omega
  have hj4 : ¬ 9223372036854775807 < 1 + ta.length + sg.size + tb.length + 1 := by omega
  have hB : Below w0.heap.size w0 w0.drew := (Below.refl _ _).drew
  have xc : w0.drew.cell? ⟨w.heap.size, 3, none⟩ = some (.slice (some ⟨b0, off, none⟩) 2 ac) := (hB.cell (p := ⟨w.heap.size, 3, none⟩) HBL.out.1).trans HC3.out
  have x0 : w0.drew.cell? ⟨b0, off, none⟩ = some (.int .i64 a.kind) := (hB.cell (p := ⟨b0, off, none⟩) HBL.out.2).trans HQ0.out
  have x1 : w0.drew.cell? ⟨b0, off + 1, none⟩ = some (.string a.name) := (hB.cell (p := ⟨b0, off + 1, none⟩) HBL.out.2).trans HQ1.out
  have x2 : w0.drew.cell? ⟨b0, off + 2, none⟩ = some (.int .i64 a.num) := (hB.cell (p := ⟨b0, off + 2, none⟩) HBL.out.2).trans HQ2.out
  have x3 : w0.drew.cell? ⟨b0, off + 3, none⟩ = some (.slice A1 a.args.length ac1) := (hB.cell (p := ⟨b0, off + 3, none⟩) HBL.out.2).trans HQ3.out
  have x4 : w0.drew.cell? ⟨b0, off + 4, none⟩ = some (.int .i64 b.kind) := (hB.cell (p := ⟨b0, off + 4, none⟩) HBL.out.2).trans HQ4.out
  have x5 : w0.drew.cell? ⟨b0, off + 5, none⟩ = some (.string b.name) := (hB.cell (p := ⟨b0, off + 5, none⟩) HBL.out.2).trans HQ5.out
  have x6 : w0.drew.cell? ⟨b0, off + 6, none⟩ = some (.int .i64 b.num) := (hB.cell (p := ⟨b0, off + 6, none⟩) HBL.out.2).trans HQ6.out
  have x7 : w0.drew.cell? ⟨b0, off + 7, none⟩ = some (.slice A2 b.args.length ac2) := (hB.cell (p := ⟨b0, off + 7, none⟩) HBL.out.2).trans HQ7.out
  have HB1 := Lib.hid (HA.out w0.drew hB)
  clear hB
  go_region_held3 (fun x : World => x.cell? ⟨w.heap.size, 3, none⟩ = some (.slice (some ⟨b0, off, none⟩) 2 ac) ∧ x.cell? ⟨b0, off, none⟩ = some (.int .i64 a.kind) ∧ x.cell? ⟨b0, off + 1, none⟩ = some (.string a.name) ∧ x.cell? ⟨b0, off + 2, none⟩ = some (.int .i64 a.num) ∧ x.cell? ⟨b0, off + 3, none⟩ = some (.slice A1 a.args.length ac1) ∧ x.cell? ⟨b0, off + 4, none⟩ = some (.int .i64 b.kind) ∧ x.cell? ⟨b0, off + 5, none⟩ = some (.string b.name) ∧ x.cell? ⟨b0, off + 6, none⟩ = some (.int .i64 b.num) ∧ x.cell? ⟨b0, off + 7, none⟩ = some (.slice A2 b.args.length ac2)) (first | with_reducible exact ⟨xc, x0, x1, x2, x3, x4, x5, x6, x7⟩ | with_reducible exact ⟨yc, y0, y1, y2, y3, y4, y5, y6, y7⟩ | with_reducible exact ⟨zc, z0, z1, z2, z3, z4, z5, z6, z7⟩) (first
    | (go_simp; go_at_call 16; (with_reducible refine HB1.out.mono ?_); rintro e w1 ⟨rfl, hb1⟩; have hB : Below w0.heap.size w0 w1 := (Below.refl w0.heap.size w0).drew.trans hb1; have yc : w1.cell? ⟨w.heap.size, 3, none⟩ = some (.slice (some ⟨b0, off, none⟩) 2 ac) := (hB.cell (p := ⟨w.heap.size, 3, none⟩) HBL.out.1).trans HC3.out; have y0 : w1.cell? ⟨b0, off, none⟩ = some (.int .i64 a.kind) := (hB.cell (p := ⟨b0, off, none⟩) HBL.out.2).trans HQ0.out; have y1 : w1.cell? ⟨b0, off + 1, none⟩ = some (.string a.name) := (hB.cell (p := ⟨b0, off + 1, none⟩) HBL.out.2).trans HQ1.out; have y2 : w1.cell? ⟨b0, off + 2, none⟩ = some (.int .i64 a.num) := (hB.cell (p := ⟨b0, off + 2, none⟩) HBL.out.2).trans HQ2.out; have y3 : w1.cell? ⟨b0, off + 3, none⟩ = some (.slice A1 a.args.length ac1) := (hB.cell (p := ⟨b0, off + 3, none⟩) HBL.out.2).trans HQ3.out; have y4 : w1.cell? ⟨b0, off + 4, none⟩ = some (.int .i64 b.kind) := (hB.cell (p := ⟨b0, off + 4, none⟩) HBL.out.2).trans HQ4.out; have y5 : w1.cell? ⟨b0, off + 5, none⟩ = some (.string b.name) := (hB.cell (p := ⟨b0, off + 5, none⟩) HBL.out.2).trans HQ5.out; have y6 : w1.cell? ⟨b0, off + 6, none⟩ = some (.int .i64 b.num) := (hB.cell (p := ⟨b0, off + 6, none⟩) HBL.out.2).trans HQ6.out; have y7 : w1.cell? ⟨b0, off + 7, none⟩ = some (.slice A2 b.args.length ac2) := (hB.cell (p := ⟨b0, off + 7, none⟩) HBL.out.2).trans HQ7.out; have HB2 := Lib.hid (HB.out w1 hB); have hBk1 := Lib.hid hB; clear hB hb1)
    | (go_simp; go_at_call 16; (with_reducible refine HB2.out.mono ?_); rintro e w2 ⟨rfl, hb2⟩; have hB : Below w0.heap.size w0 w2 := hBk1.out.trans (hb2.mono hBk1.out.size); have zc : w2.cell? ⟨w.heap.size, 3, none⟩ = some (.slice (some ⟨b0, off, none⟩) 2 ac) := (hB.cell (p := ⟨w.heap.size, 3, none⟩) HBL.out.1).trans HC3.out; have z0 : w2.cell? ⟨b0, off, none⟩ = some (.int .i64 a.kind) := (hB.cell (p := ⟨b0, off, none⟩) HBL.out.2).trans HQ0.out; have z1 : w2.cell? ⟨b0, off + 1, none⟩ = some (.string a.name) := (hB.cell (p := ⟨b0, off + 1, none⟩) HBL.out.2).trans HQ1.out; have z2 : w2.cell? ⟨b0, off + 2, none⟩ = some (.int .i64 a.num) := (hB.cell (p := ⟨b0, off + 2, none⟩) HBL.out.2).trans HQ2.out; have z3 : w2.cell? ⟨b0, off + 3, none⟩ = some (.slice A1 a.args.length ac1) := (hB.cell (p := ⟨b0, off + 3, none⟩) HBL.out.2).trans HQ3.out; have z4 : w2.cell? ⟨b0, off + 4, none⟩ = some (.int .i64 b.kind) := (hB.cell (p := ⟨b0, off + 4, none⟩) HBL.out.2).trans HQ4.out; have z5 : w2.cell? ⟨b0, off + 5, none⟩ = some (.string b.name) := (hB.cell (p := ⟨b0, off + 5, none⟩) HBL.out.2).trans HQ5.out; have z6 : w2.cell? ⟨b0, off + 6, none⟩ = some (.int .i64 b.num) := (hB.cell (p := ⟨b0, off + 6, none⟩) HBL.out.2).trans HQ6.out; have z7 : w2.cell? ⟨b0, off + 7, none⟩ = some (.slice A2 b.args.length ac2) := (hB.cell (p := ⟨b0, off + 7, none⟩) HBL.out.2).trans HQ7.out; have hBk2 := Lib.hid hB; clear hB hb2))
  all_goals
    go_wp2
    go_ret
    exact ⟨by rw [← HE.out]; rfl, HB0.out.trans (hBk2.out.mono HB0.out.size)⟩
end

set_option maxHeartbeats 8000000 in
set_option maxRecDepth 100000 in
theorem implTextO_of (k0 n0 : Int) (nm : ByteArray) (ts : List Ot) (hall : ∀ i, (h : i < ts.length) → TextOI ts[i]) : TextOI (.mk k0 n0 nm ts) := by
  intro v w hv hf hsz ht
  have htx : txtO (.mk k0 n0 nm ts) = nodeTxtO k0 n0 nm (txtOs ts) := by rw [txtO]
  rw [formOt, Bool.and_eq_true] at hf
  have hfa := formOts_at ts hf.1
  have hsz2 : 1 + sizeOts ts ≤ 1000 := by rw [sizeOt] at hsz; exact hsz
  have HFORM := Lib.hid (nodeOB_forms hf.2)
  have HTX := Lib.hid htx
  have hv0 := hv
  obtain ⟨A, ac, rfl, hnm, ha⟩ := hv.open
  simp only [Ot.kind, Ot.num, Ot.name, Ot.args] at *
  obtain ⟨hb0, p0, hs0⟩ := boxes1 w 26 #[.int .i64 k0, .string nm, .int .i64 n0, .slice A ts.length ac]
  have HTT := Lib.hid (ht.below hb0)
  have ha0 := (ha.up hb0)
  have HV0 := Lib.hid (hv0.lift hb0 |>.more hb0.size)
  have HB := Lib.hid hb0
  have HFA := Lib.hid hfa
  have HALL := Lib.hid hall
  have c0 : (w.alloc (.cells #[.int .i64 k0, .string nm, .int .i64 n0, .slice A ts.length ac] 26)).cell? ⟨w.heap.size, 0, none⟩ = some (.int .i64 k0) := p0.cell 0
  have c1 : (w.alloc (.cells #[.int .i64 k0, .string nm, .int .i64 n0, .slice A ts.length ac] 26)).cell? ⟨w.heap.size, 1, none⟩ = some (.string nm) := p0.cell 1
  have c2 : (w.alloc (.cells #[.int .i64 k0, .string nm, .int .i64 n0, .slice A ts.length ac] 26)).cell? ⟨w.heap.size, 2, none⟩ = some (.int .i64 n0) := p0.cell 2
  have c3 : (w.alloc (.cells #[.int .i64 k0, .string nm, .int .i64 n0, .slice A ts.length ac] 26)).cell? ⟨w.heap.size, 3, none⟩ = some (.slice A ts.length ac) := p0.cell 3
  clear hv hv0 hf htx hfa hnm ha hb0 p0 hs0 hall ht
  go_enter Tryz.func16, Tryz.ntmps16
  go_upto_region 1 with fail
  generalize (w.alloc (.cells #[.int .i64 k0, .string nm, .int .i64 n0, .slice A ts.length ac] 26)) = w0 at *
  rcases HFORM.out with ⟨hq0, rfl, rfl, rfl⟩ | ⟨hq0, rfl, hnm, rfl⟩ | ⟨hq0, hn, rfl, rfl⟩ | ⟨rfl, rfl, rfl, t, rfl⟩ | ⟨hq0, rfl, rfl, a, b, rfl⟩
  · rcases hq0 with rfl | rfl | rfl | rfl | rfl
    all_goals
      go_wp2
      go_ret
      exact ⟨by rw [HTX.out]; rfl, HB.out⟩
  · rcases hq0 with rfl | rfl | rfl
    · have hnz := name_len hnm
      have hj0 : ¬ 9223372036854775807 < 1 + nm.size := by omega
      have HE : Hid (txtO (.mk 2 0 nm []) = [46] ++ nm.data.toList) := Lib.hid (by rw [HTX.out]; rfl)
      clear hnm hnz
      go_wp2
      go_ret
      exact ⟨by rw [HE.out, lead_bytes]; rfl, HB.out⟩
    · have hnz := name_len hnm
      have hj0 : ¬ 9223372036854775807 < 1 + nm.size := by omega
      have HE : Hid (txtO (.mk 3 0 nm []) = [63] ++ nm.data.toList) := Lib.hid (by rw [HTX.out]; rfl)
      clear hnm hnz
      go_wp2
      go_ret
      exact ⟨by rw [HE.out, lead_bytes]; rfl, HB.out⟩
    · have hnz := name_len hnm
      have hj0 : ¬ 9223372036854775807 < 5 + nm.size := by omega
      have HE : Hid (txtO (.mk 10 0 nm []) = [119, 114, 97, 112, 32] ++ nm.data.toList) := Lib.hid (by rw [HTX.out]; rfl)
      clear hnm hnz
      go_wp2
      go_ret
      exact ⟨by rw [HE.out, lead_bytes]; rfl, HB.out⟩
  · rcases hq0 with rfl | rfl
    · have hn0 := itoa_len n0 (by omega)
      have hj0 : ¬ 9223372036854775807 < 3 + (Lib.itoa n0).length := by omega
      have HE : Hid (txtO (.mk 6 n0 ⟨#[]⟩ []) = [97, 116, 32] ++ Lib.itoa n0) := Lib.hid (by rw [HTX.out]; rfl)
      have HI := Lib.hid (implFormatInt_any n0 w0 (by omega) (by omega) HTT.out.1)
      clear hn hn0
      go_wp2_with fail
      refine HI.out.mono ?_
      rintro e w5 ⟨rfl, hb5⟩
      go_wp2
      go_ret
      exact ⟨by rw [HE.out, lead_list]; rfl, HB.out.trans (hb5.mono HB.out.size)⟩
    · have hn0 := itoa_len n0 (by omega)
      have hj0 : ¬ 9223372036854775807 < 4 + (Lib.itoa n0).length := by omega
      have HE : Hid (txtO (.mk 7 n0 ⟨#[]⟩ []) = [97, 100, 100, 32] ++ Lib.itoa n0) := Lib.hid (by rw [HTX.out]; rfl)
      have HI := Lib.hid (implFormatInt_any n0 w0 (by omega) (by omega) HTT.out.1)
      clear hn hn0
      go_wp2_with fail
      refine HI.out.mono ?_
      rintro e w5 ⟨rfl, hb5⟩
      go_wp2
      go_ret
      exact ⟨by rw [HE.out, lead_list]; rfl, HB.out.trans (hb5.mono HB.out.size)⟩
  · obtain ⟨b0, off, A1, ac1, rfl, hbl, q0, q2, q1, q3, htt⟩ := ha0.elem 0 (by simp)
    simp only [List.getElem_cons_zero, Nat.zero_mul, Nat.add_zero] at q0 q1 q2 q3 htt
    have hft := HFA.out 0 (by simp)
    have hlt := txtO_len t (by simpa using hft)
    have hst : sizeOt t ≤ 999 := by simp [sizeOts] at hsz2; omega
    have HT := Lib.hid ((show TextOI t from HALL.out 0 (by simp)) _ w0 htt (by simpa using hft) (by omega) HTT.out)
    have HE : Hid (txtO (.mk 11 0 ⟨#[]⟩ [t]) = [109, 97, 112, 32] ++ txtO t) := Lib.hid (by rw [txtO_11]; rfl)
    generalize txtO t = T at *
    have hj1 : ¬ 9223372036854775807 < 4 + T.length := by omega
    have h0I : (0 : Int) < (([t] : List Ot).length : Int) := by simp
    clear hlt hft htt ha0
    go_wp2_with fail
    refine HT.out.mono ?_
    rintro e w1 ⟨rfl, hb1⟩
    go_wp2
    go_ret
    exact ⟨by rw [HE.out, lead_list]; rfl, HB.out.trans (hb1.mono HB.out.size)⟩
  · have hfa1 := HFA.out 0 (by simp)
    have hfb1 := HFA.out 1 (by simp)
    rcases hq0 with rfl | rfl
    · have HP := Lib.hid (pairText_any 12 0 ⟨#[]⟩ a b ⟨#[59]⟩ (by decide) (HALL.out 0 (by simp)) (HALL.out 1 (by simp)) (by simpa using hfa1) (by simpa using hfb1) (by simp [sizeOts] at hsz2; have := sizeOt_eq b; omega) (by simp [sizeOts] at hsz2; have := sizeOt_eq a; omega) _ w0 HV0.out HTT.out)
      have HE : Hid (txtO (.mk 12 0 ⟨#[]⟩ [a, b]) = 40 :: (txtO a ++ ((⟨#[59]⟩ : ByteArray).data.toList ++ (txtO b ++ [41])))) := Lib.hid (by rw [txtO_12]; rfl)
      clear hfa1 hfb1 ha0
      go_wp2_with fail
      refine HP.out.mono ?_
      rintro e w1 ⟨rfl, hb1⟩
      go_wp2
      go_ret
      exact ⟨by rw [HE.out]; rfl, HB.out.trans (hb1.mono HB.out.size)⟩
    · have HP := Lib.hid (pairText_any 13 0 ⟨#[]⟩ a b ⟨#[124]⟩ (by decide) (HALL.out 0 (by simp)) (HALL.out 1 (by simp)) (by simpa using hfa1) (by simpa using hfb1) (by simp [sizeOts] at hsz2; have := sizeOt_eq b; omega) (by simp [sizeOts] at hsz2; have := sizeOt_eq a; omega) _ w0 HV0.out HTT.out)
      have HE : Hid (txtO (.mk 13 0 ⟨#[]⟩ [a, b]) = 40 :: (txtO a ++ ((⟨#[124]⟩ : ByteArray).data.toList ++ (txtO b ++ [41])))) := Lib.hid (by rw [txtO_13]; rfl)
      clear hfa1 hfb1 ha0
      go_wp2_with fail
      refine HP.out.mono ?_
      rintro e w1 ⟨rfl, hb1⟩
      go_wp2
      go_ret
      exact ⟨by rw [HE.out]; rfl, HB.out.trans (hb1.mono HB.out.size)⟩

theorem implTextO_any (t : Ot) : TextOI t := by
  induction t using Ot.ind with
  | h k n nm ts ih => exact implTextO_of k n nm ts ih

set_option maxHeartbeats 1000000 in
theorem implFormatO_any (t : Ot) (v : Value) (w : World) (hv : OwnO w v t) (hsz : szOt t ≤ 1048576) (ht : TabO w) : Calls Tryz.prog 6 #[v] w (StrIs (formatOB t) w) := by
  have HX : opticB t = true → Hid (∀ W, Below w.heap.size w W → Calls Tryz.prog 16 #[v] W (StrIs ⟨(txtO t).toArray⟩ W)) := fun h => Lib.hid fun W hb => by
    obtain ⟨h1, _, h3⟩ := opticB_parts h
    exact implTextO_any t v W (hv.here.up hb) h3 (by omega) (ht.below hb)
  have hss := size_le_szO t
  have hv0 := hv
  obtain ⟨A, ac, rfl, _⟩ := hv.open
  obtain ⟨hb0, p0, hs0⟩ := boxes1 w 26 #[.int .i64 t.kind, .string t.name, .int .i64 t.num, .slice A t.args.length ac]
  have HV := Lib.hid (implIsOptic_any t _ _ (hv0.up hb0) (by omega))
  have c0 : (w.alloc (.cells #[.int .i64 t.kind, .string t.name, .int .i64 t.num, .slice A t.args.length ac] 26)).cell? ⟨w.heap.size, 0, none⟩ = some (.int .i64 t.kind) := p0.cell 0
  have c1 : (w.alloc (.cells #[.int .i64 t.kind, .string t.name, .int .i64 t.num, .slice A t.args.length ac] 26)).cell? ⟨w.heap.size, 1, none⟩ = some (.string t.name) := p0.cell 1
  have c2 : (w.alloc (.cells #[.int .i64 t.kind, .string t.name, .int .i64 t.num, .slice A t.args.length ac] 26)).cell? ⟨w.heap.size, 2, none⟩ = some (.int .i64 t.num) := p0.cell 2
  have c3 : (w.alloc (.cells #[.int .i64 t.kind, .string t.name, .int .i64 t.num, .slice A t.args.length ac] 26)).cell? ⟨w.heap.size, 3, none⟩ = some (.slice A t.args.length ac) := p0.cell 3
  clear hv hv0 hs0
  cases hvb : opticB t
  · rw [hvb] at HV
    have HE : Hid (formatOB t = ⟨#[]⟩) := Lib.hid (by unfold formatOB; rw [hvb]; rfl)
    clear HX hvb
    go_enter Tryz.func6, Tryz.ntmps6
    go_wp2_with fail
    generalize (w.alloc (.cells #[.int .i64 t.kind, .string t.name, .int .i64 t.num, .slice A t.args.length ac] 26)) = w0 at *
    refine HV.out.mono ?_
    rintro e w1 ⟨rfl, hb1⟩
    go_wp2
    go_ret
    exact ⟨by rw [HE.out]; rfl, hb0.trans (hb1.mono hb0.size)⟩
  · rw [hvb] at HV
    have HE : Hid (formatOB t = ⟨(txtO t).toArray⟩) := Lib.hid (by unfold formatOB; rw [hvb]; rfl)
    have HX2 := HX hvb
    clear HX hvb
    go_enter Tryz.func6, Tryz.ntmps6
    go_wp2_with fail
    generalize (w.alloc (.cells #[.int .i64 t.kind, .string t.name, .int .i64 t.num, .slice A t.args.length ac] 26)) = w0 at *
    refine HV.out.mono ?_
    rintro e w1 ⟨rfl, hb1⟩
    have hb01 := hb0.trans (hb1.mono hb0.size)
    have HX3 := Lib.hid (HX2.out w1 hb01)
    have p1 := p0.below hb1 p0.lt
    have d0 : w1.cell? ⟨w.heap.size, 0, none⟩ = some (.int .i64 t.kind) := p1.cell 0
    have d1 : w1.cell? ⟨w.heap.size, 1, none⟩ = some (.string t.name) := p1.cell 1
    have d2 : w1.cell? ⟨w.heap.size, 2, none⟩ = some (.int .i64 t.num) := p1.cell 2
    have d3 : w1.cell? ⟨w.heap.size, 3, none⟩ = some (.slice A t.args.length ac) := p1.cell 3
    clear p1 c0 c1 c2 c3
    go_wp2_with fail
    refine HX3.out.mono ?_
    rintro e w2 ⟨rfl, hb2⟩
    go_wp2
    go_ret
    exact ⟨by rw [HE.out]; rfl, hb01.trans (hb2.mono hb01.size)⟩

end Go.Proofs.YtlmbnefoobameaaGreatDoor
end

section
namespace Go.Proofs
open Go.Shelf
def Tryz.laysC172_ren : Go.Shelf.Ren := ⟨fun | 172 => 93 | 244 => 99 | 245 => 100 | 247 => 103 | 279 => 104 | 280 => 105 | 281 => 106 | 282 => 107 | 287 => 108 | 316 => 66 | 171 => 63 | 205 => 109 | 321 => 110 | 322 => 111 | 243 => 74 | 246 => 84 | 283 => 89 | 284 => 90 | 285 => 91 | 286 => 92 | 129 => 95 | 317 => 94 | 318 => 96 | 319 => 97 | 320 => 98 | 337 => 101 | 338 => 102 | n => n, fun | 9 => 9 | 3 => 3 | 75 => 124 | 76 => 125 | 4 => 4 | 5 => 5 | 167 => 135 | 37 => 22 | 0 => 0 | 85 => 136 | 2 => 2 | 168 => 138 | 53 => 118 | 175 => 143 | 46 => 97 | 210 => 146 | 127 => 109 | 145 => 151 | 143 => 149 | 21 => 21 | 171 => 117 | 173 => 121 | 212 => 128 | 51 => 129 | 20 => 20 | 213 => 130 | 232 => 141 | 233 => 142 | 80 => 152 | n => n, fun | 15 => 3 | 16 => 4 | 17 => 0 | 18 => 1 | 19 => 2 | n => n⟩
theorem Tryz.laysC172 : Go.Proofs.LaysC.n172 Tryz.prog Tryz.laysC172_ren := {
  mixed := by kernel_rfl
  f129 := Tryz.func95.trans (congrArg some (by kernel_rfl))
  f171 := Tryz.func63.trans (congrArg some (by kernel_rfl))
  f172 := Tryz.func93.trans (congrArg some (by kernel_rfl))
  f205 := Tryz.func109.trans (congrArg some (by kernel_rfl))
  f243 := Tryz.func74.trans (congrArg some (by kernel_rfl))
  f244 := Tryz.func99.trans (congrArg some (by kernel_rfl))
  f245 := Tryz.func100.trans (congrArg some (by kernel_rfl))
  f246 := Tryz.func84.trans (congrArg some (by kernel_rfl))
  f247 := Tryz.func103.trans (congrArg some (by kernel_rfl))
  f279 := Tryz.func104.trans (congrArg some (by kernel_rfl))
  f280 := Tryz.func105.trans (congrArg some (by kernel_rfl))
  f281 := Tryz.func106.trans (congrArg some (by kernel_rfl))
  f282 := Tryz.func107.trans (congrArg some (by kernel_rfl))
  f283 := Tryz.func89.trans (congrArg some (by kernel_rfl))
  f284 := Tryz.func90.trans (congrArg some (by kernel_rfl))
  f285 := Tryz.func91.trans (congrArg some (by kernel_rfl))
  f286 := Tryz.func92.trans (congrArg some (by kernel_rfl))
  f287 := Tryz.func108.trans (congrArg some (by kernel_rfl))
  f316 := Tryz.func66.trans (congrArg some (by kernel_rfl))
  f317 := Tryz.func94.trans (congrArg some (by kernel_rfl))
  f318 := Tryz.func96.trans (congrArg some (by kernel_rfl))
  f319 := Tryz.func97.trans (congrArg some (by kernel_rfl))
  f320 := Tryz.func98.trans (congrArg some (by kernel_rfl))
  f321 := Tryz.func110.trans (congrArg some (by kernel_rfl))
  f322 := Tryz.func111.trans (congrArg some (by kernel_rfl))
  f337 := Tryz.func101.trans (congrArg some (by kernel_rfl))
  f338 := Tryz.func102.trans (congrArg some (by kernel_rfl))
  t0 := Tryz.underlying0
  a0 := Tryz.isAgg0
  z0 := Tryz.sizeOf0
  v0 := Tryz.zeroValue0
  t2 := Tryz.underlying2
  a2 := Tryz.isAgg2
  z2 := Tryz.sizeOf2
  v2 := Tryz.zeroValue2
  t3 := Tryz.underlying3
  a3 := Tryz.isAgg3
  z3 := Tryz.sizeOf3
  v3 := Tryz.zeroValue3
  t4 := Tryz.underlying4
  a4 := Tryz.isAgg4
  z4 := Tryz.sizeOf4
  v4 := Tryz.zeroValue4
  t5 := Tryz.underlying5
  a5 := Tryz.isAgg5
  z5 := Tryz.sizeOf5
  v5 := Tryz.zeroValue5
  t9 := Tryz.underlying9
  a9 := Tryz.isAgg9
  z9 := Tryz.sizeOf9
  v9 := Tryz.zeroValue9
  t20 := Tryz.underlying20
  a20 := Tryz.isAgg20
  z20 := Tryz.sizeOf20
  v20 := Tryz.zeroValue20
  t21 := Tryz.underlying21
  a21 := Tryz.isAgg21
  z21 := Tryz.sizeOf21
  v21 := Tryz.zeroValue21
  t37 := Tryz.underlying22
  a37 := Tryz.isAgg22
  z37 := Tryz.sizeOf22
  v37 := Tryz.zeroValue22
  t46 := Tryz.underlying97
  a46 := Tryz.isAgg97
  z46 := Tryz.sizeOf97
  v46 := Tryz.zeroValue97
  t51 := Tryz.underlying129
  a51 := Tryz.isAgg129
  z51 := Tryz.sizeOf129
  v51 := Tryz.zeroValue129
  t53 := Tryz.underlying118
  a53 := Tryz.isAgg118
  z53 := Tryz.sizeOf118
  v53 := Tryz.zeroValue118
  t75 := Tryz.underlying124
  a75 := Tryz.isAgg124
  z75 := Tryz.sizeOf124
  v75 := Tryz.zeroValue124
  t76 := Tryz.underlying125
  a76 := Tryz.isAgg125
  z76 := Tryz.sizeOf125
  v76 := Tryz.zeroValue125
  t85 := Tryz.underlying136
  a85 := Tryz.isAgg136
  z85 := Tryz.sizeOf136
  v85 := Tryz.zeroValue136
  t127 := Tryz.underlying109
  a127 := Tryz.isAgg109
  z127 := Tryz.sizeOf109
  v127 := Tryz.zeroValue109
  t143 := Tryz.underlying149
  a143 := Tryz.isAgg149
  z143 := Tryz.sizeOf149
  v143 := Tryz.zeroValue149
  t145 := Tryz.underlying151
  a145 := Tryz.isAgg151
  z145 := Tryz.sizeOf151
  v145 := Tryz.zeroValue151
  t167 := Tryz.underlying135
  a167 := Tryz.isAgg135
  z167 := Tryz.sizeOf135
  v167 := Tryz.zeroValue135
  t168 := Tryz.underlying138
  a168 := Tryz.isAgg138
  z168 := Tryz.sizeOf138
  v168 := Tryz.zeroValue138
  t171 := Tryz.underlying117
  a171 := Tryz.isAgg117
  z171 := Tryz.sizeOf117
  v171 := Tryz.zeroValue117
  t173 := Tryz.underlying121
  a173 := Tryz.isAgg121
  z173 := Tryz.sizeOf121
  v173 := Tryz.zeroValue121
  t175 := Tryz.underlying143
  a175 := Tryz.isAgg143
  z175 := Tryz.sizeOf143
  v175 := Tryz.zeroValue143
  t210 := Tryz.underlying146
  a210 := Tryz.isAgg146
  z210 := Tryz.sizeOf146
  v210 := Tryz.zeroValue146
  t212 := Tryz.underlying128
  a212 := Tryz.isAgg128
  z212 := Tryz.sizeOf128
  v212 := Tryz.zeroValue128
  t213 := Tryz.underlying130
  a213 := Tryz.isAgg130
  z213 := Tryz.sizeOf130
  t232 := Tryz.underlying141
  a232 := Tryz.isAgg141
  z232 := Tryz.sizeOf141
  v232 := Tryz.zeroValue141
  t233 := Tryz.underlying142
  a233 := Tryz.isAgg142
  z233 := Tryz.sizeOf142
  v233 := Tryz.zeroValue142
  g15 := by kernel_rfl
  g16 := by kernel_rfl
  g17 := by kernel_rfl
  g18 := by kernel_rfl
  g19 := by kernel_rfl
  t80 := Tryz.underlying152
  a80 := Tryz.isAgg152
  z80 := Tryz.sizeOf152
  v80 := Tryz.zeroValue152
  i0 := by kernel_rfl
  i2 := by kernel_rfl
  i3 := by kernel_rfl
  i4 := by kernel_rfl
  i5 := by kernel_rfl
  i9 := by kernel_rfl
  i20 := by kernel_rfl
  i21 := by kernel_rfl
  i37 := by kernel_rfl
  i46 := by kernel_rfl
  i51 := by kernel_rfl
  i53 := by kernel_rfl
  i75 := by kernel_rfl
  i76 := by kernel_rfl
  i80 := by kernel_rfl
  i85 := by kernel_rfl
  i127 := by kernel_rfl
  i143 := by kernel_rfl
  i145 := by kernel_rfl
  i167 := by kernel_rfl
  i168 := by kernel_rfl
  i171 := by kernel_rfl
  i173 := by kernel_rfl
  i175 := by kernel_rfl
  i210 := by kernel_rfl
  i212 := by kernel_rfl
  i232 := by kernel_rfl
  i233 := by kernel_rfl
  m15 := by kernel_rfl
  m16 := by kernel_rfl
  m17 := by kernel_rfl
  m18 := by kernel_rfl
  m19 := by kernel_rfl
  c0 := by kernel_rfl
  c2 := by kernel_rfl
  c3 := by kernel_rfl
  c4 := by kernel_rfl
  c5 := by kernel_rfl
  c9 := by kernel_rfl
  c20 := by kernel_rfl
  c21 := by kernel_rfl
  c37 := by kernel_rfl
  c46 := by kernel_rfl
  c51 := by kernel_rfl
  c53 := by kernel_rfl
  c75 := by kernel_rfl
  c76 := by kernel_rfl
  c80 := by kernel_rfl
  c85 := by kernel_rfl
  c127 := by kernel_rfl
  c143 := by kernel_rfl
  c145 := by kernel_rfl
  c167 := by kernel_rfl
  c168 := by kernel_rfl
  c171 := by kernel_rfl
  c173 := by kernel_rfl
  c175 := by kernel_rfl
  c210 := by kernel_rfl
  c212 := by kernel_rfl
  c213 := by kernel_rfl
  c232 := by kernel_rfl
  c233 := by kernel_rfl }
end Go.Proofs
end

section
namespace Go.Proofs.YtlmbnefoobameaaGreatDoor
open Go.RowKit Go.Shelf

/-- The two sentinels of strconv hold values that are not nil. -/
def ErrsAt (w : World) : Prop := (∃ t p, w.var? Tryz.prog "strconv.ErrSyntax" = some #[.iface t p]) ∧ ∃ t p, w.var? Tryz.prog "strconv.ErrRange" = some #[.iface t p]

theorem var_below {w w' : World} {B : Nat} {n : String} {g : Nat} (hb : Below B w w') (hg : Tryz.prog.globalNamed n = some g) (hB : g < B) : w'.var? Tryz.prog n = w.var? Tryz.prog n := by
  unfold World.var?
  rw [hg, Option.bind_some, Option.bind_some, hb.block _ hB]

theorem var_lt {w : World} {n : String} {g : Nat} {cs : Array Value} (hg : Tryz.prog.globalNamed n = some g) (h : w.var? Tryz.prog n = some cs) : g < w.heap.size := by
  unfold World.var? at h
  rw [hg, Option.bind_some] at h
  by_cases hlt : g < w.heap.size
  · exact hlt
  · rw [Array.getElem?_eq_none (by omega)] at h
    cases h

theorem ErrsAt.below {w w' : World} {B : Nat} (h : ErrsAt w) (hb : Below B w w') (hB : 3 < B ∧ 4 < B) : ErrsAt w' := by
  obtain ⟨⟨t, p, h1⟩, ⟨t', p', h2⟩⟩ := h
  exact ⟨⟨t, p, (var_below hb (by kernel_rfl) hB.1).trans h1⟩, ⟨t', p', (var_below hb (by kernel_rfl) hB.2).trans h2⟩⟩

theorem atoi_ok (s : ByteArray) (w : World) (hs : s.size ≤ 1048576) (v : Int) (h : Lib.atoiAll s.data.toList = .ok v) :
    Calls Tryz.prog 93 #[.string s] w fun e w' => e = .returned (.tuple #[.int .i64 v, .nilIface]) ∧ Below w.heap.size w w' := by
  refine (Any.strconv_Atoi_ok Tryz.laysC172 s (by omega) v h w).mono fun e w' ⟨he, hw⟩ => ⟨he, ?_⟩
  rcases hw with rfl | ⟨t, rfl⟩
  · exact Below.refl _ _
  · exact Lib.bytesWorld_below _ _ _

/-- An error comes back. -/
def AtoiErr (w : World) (e : Ending) (w' : World) : Prop := ∃ n t p, e = .returned (.tuple #[.int .i64 n, .iface t (.pointer (some p))]) ∧ Below w.heap.size w w'

theorem atoi_err (s : ByteArray) (w : World) (hs : s.size ≤ 1048576) (hE : ErrsAt w) (h : ∀ v, Lib.atoiAll s.data.toList ≠ .ok v) :
    Calls Tryz.prog 93 #[.string s] w (AtoiErr w) := by
  obtain ⟨⟨t, p, h1⟩, ⟨t', p', h2⟩⟩ := hE
  rcases h0 : Lib.atoiAll s.data.toList with v | _ | _
  · exact absurd h0 (h v)
  · exact (Any.strconv_Atoi_syntax_var Tryz.laysC172 s (by omega) h0 t p w h1).mono fun e w' ⟨N, he, _, _, hb⟩ => ⟨_, _, _, he, hb⟩
  · exact (Any.strconv_Atoi_range_var Tryz.laysC172 s (by omega) h0 t' p' w h2).mono fun e w' ⟨N, he, _, _, hb⟩ => ⟨_, _, _, he, hb⟩

end Go.Proofs.YtlmbnefoobameaaGreatDoor
end

section
namespace Go.Proofs.YtlmbnefoobameaaGreatDoor
open Go.RowKit

/-- A panic. -/
def Panics (w : World) (e : Ending) (w' : World) : Prop := (∃ t v, e = .panicked [{ v := .iface t v, recovered := false }]) ∧ Below w.heap.size w w'

theorem str_of_list {s : ByteArray} {l : List UInt8} (h : s.data.toList = l) : s = ⟨l.toArray⟩ := by
  cases s
  simp at h
  subst h
  simp

set_option maxHeartbeats 400000 in
theorem within_yes (s : ByteArray) (lo hi n : Int) (w : World) (hs : s.size ≤ 1048576) (h0 : lo ≤ n) (h1 : n ≤ hi) (hlo : -(2 ^ 63) ≤ lo) (hhi : hi ≤ 2 ^ 63 - 1) (hn : s.data.toList = Lib.itoa n) (ht : Pow10At w) (hsz : 0 < w.heap.size) :
    Calls Tryz.prog 86 #[.string s, .int .i64 lo, .int .i64 hi] w fun e w' => e = .returned (.int .i64 n) ∧ Below w.heap.size w w' := by
  have ha := Lib.hid (atoi_ok s w hs n (by rw [hn]; exact atoi_itoa n (by omega) (by omega)))
  obtain rfl := str_of_list hn
  clear hn
  have hl1 : ¬ n < lo := by omega
  have hl2 : ¬ hi < n := by omega
  go_enter Tryz.func86, Tryz.ntmps86
  go_wp2_with fail
  refine ha.out.mono ?_
  rintro e w1 ⟨rfl, hb1⟩
  have ht1 := Lib.hid (implFormatInt_any n w1 (by omega) (by omega) (ht.below hb1 hsz))
  clear ht ha
  go_wp2_with fail
  refine ht1.out.mono ?_
  rintro e w2 ⟨rfl, hb2⟩
  go_wp2
  go_ret
  exact ⟨rfl, hb1.trans (hb2.mono hb1.size)⟩

set_option maxHeartbeats 400000 in
theorem within_no (s : ByteArray) (lo hi : Int) (w : World) (hs : s.size ≤ 1048576) (hlo : -(2 ^ 63) ≤ lo) (hhi : hi ≤ 2 ^ 63 - 1) (hn : ∀ n, lo ≤ n → n ≤ hi → s.data.toList ≠ Lib.itoa n) (ht : Pow10At w) (hE : ErrsAt w) (hsz : 0 < w.heap.size) :
    Calls Tryz.prog 86 #[.string s, .int .i64 lo, .int .i64 hi] w (Panics w) := by
  have hN := Lib.hid hn
  clear hn
  by_cases hok : ∃ v, Lib.atoiAll s.data.toList = .ok v
  · obtain ⟨v, hv⟩ := hok
    have ha := Lib.hid (atoi_ok s w hs v hv)
    clear hv
    by_cases hl1 : v < lo
    · clear ht hE
      go_enter Tryz.func86, Tryz.ntmps86
      go_wp2_with fail
      refine ha.out.mono ?_
      rintro e w1 ⟨rfl, hb1⟩
      go_wp2
      exact ⟨rfl, ⟨_, _, rfl⟩, hb1⟩
    · by_cases hl2 : hi < v
      · clear ht hE
        go_enter Tryz.func86, Tryz.ntmps86
        go_wp2_with fail
        refine ha.out.mono ?_
        rintro e w1 ⟨rfl, hb1⟩
        go_wp2
        exact ⟨rfl, ⟨_, _, rfl⟩, hb1⟩
      · have hne : (Lib.itoa v == s.toList) = false := by
          rw [beq_eq_false_iff_ne, ByteArray.toList_eq]
          intro e
          exact hN.out v (by omega) (by omega) e.symm
        clear hE
        go_enter Tryz.func86, Tryz.ntmps86
        go_wp2_with fail
        refine ha.out.mono ?_
        rintro e w1 ⟨rfl, hb1⟩
        have ht1 := Lib.hid (implFormatInt_any v w1 (by omega) (by omega) (ht.below hb1 hsz))
        clear ht ha
        go_wp2_with fail
        refine ht1.out.mono ?_
        rintro e w2 ⟨rfl, hb2⟩
        go_wp2
        exact ⟨rfl, ⟨_, _, rfl⟩, hb1.trans (hb2.mono hb1.size)⟩
  · have ha := Lib.hid (atoi_err s w hs hE (fun v hv => hok ⟨v, hv⟩))
    clear ht hE
    go_enter Tryz.func86, Tryz.ntmps86
    go_wp2_with fail
    refine ha.out.mono ?_
    rintro e w1 ⟨n, t, p, rfl, hb1⟩
    go_wp2
    exact ⟨rfl, ⟨_, _, rfl⟩, hb1⟩

end Go.Proofs.YtlmbnefoobameaaGreatDoor
end

section
namespace Go.Proofs.YtlmbnefoobameaaGreatDoor
open Go.RowKit

theorem catchI_panicking (u : TypeId) (pv : Value) (older : List PanicEntry) (w : World) :
    CallsD Tryz.prog 85 #[] (.panicking ({ v := .iface u pv, recovered := false } :: older)) w fun e u' w' =>
      e = .returned (.tuple #[]) ∧ u' = .panicking ({ v := .iface u pv, recovered := true } :: older) ∧ w' = w := by
  refine callsD_of_wpS Tryz.func85 rfl fun c₀ cs hu => ?_
  apply wpS_region
  simp [wpOpsS, go_sem, recoverD, hu, Tryz.ntmps85, bodyPostS, results, Tryz.results85]

theorem catchI_idle (w : World) :
    CallsD Tryz.prog 85 #[] .returning w fun e u' w' => e = .returned (.tuple #[]) ∧ u' = .returning ∧ w' = w := by
  refine callsD_of_wpS Tryz.func85 rfl fun c₀ cs hu => ?_
  apply wpS_region
  simp [wpOpsS, go_sem, recoverD, hu, Tryz.ntmps85, bodyPostS, results, Tryz.results85]
  cases c₀
  simp_all

set_option maxHeartbeats 400000 in
theorem implParseInt_yes (s : ByteArray) (n : Int) (w : World) (hs : s.size ≤ 1048576) (h0 : -999999999999 ≤ n) (h1 : n ≤ 999999999999) (hn : s.data.toList = Lib.itoa n) (ht : Pow10At w) (hsz : 0 < w.heap.size) :
    Calls Tryz.prog 75 #[.string s] w fun e w' => e = .returned (.tuple #[.int .i64 n, .bool true]) ∧ Below w.heap.size w w' := by
  have hw := Lib.hid (within_yes s (-999999999999) 999999999999 n w hs h0 h1 (by omega) (by omega) hn ht hsz)
  have hmf : ∀ (fn : Fn) (first cap : Array Value) (w : World), (Instr.makeFunc fn first cap).run Tryz.prog w = .ok (.func fn first cap) w := fun _ _ _ _ => rfl
  clear hn ht
  go_enter_defers Tryz.func75, Tryz.ntmps75
  go_wp2_with fail
  refine hw.out.mono ?_
  rintro e w1 ⟨rfl, hb1⟩
  go_wp2
  refine leaves_cons (f := 85) (args := #[]) (by simp) (by simp [go_sem]) ?_
  refine (catchI_idle _).mono ?_
  rintro e u' w'' ⟨rfl, rfl, rfl⟩
  simp [Leaves, settle, results, Tryz.results75, go_sem]
  exact hb1

set_option maxHeartbeats 400000 in
theorem implParseInt_no (s : ByteArray) (w : World) (hs : s.size ≤ 1048576) (hn : ∀ n, -999999999999 ≤ n → n ≤ 999999999999 → s.data.toList ≠ Lib.itoa n) (ht : Pow10At w) (hE : ErrsAt w) (hsz : 0 < w.heap.size) :
    Calls Tryz.prog 75 #[.string s] w fun e w' => e = .returned (.tuple #[.int .i64 0, .bool false]) ∧ Below w.heap.size w w' := by
  have hw := Lib.hid (within_no s (-999999999999) 999999999999 w hs (by omega) (by omega) hn ht hE hsz)
  have hmf : ∀ (fn : Fn) (first cap : Array Value) (w : World), (Instr.makeFunc fn first cap).run Tryz.prog w = .ok (.func fn first cap) w := fun _ _ _ _ => rfl
  clear hn ht hE
  go_enter_defers Tryz.func75, Tryz.ntmps75
  go_wp2_with fail
  refine hw.out.mono ?_
  rintro e w1 ⟨⟨t, v, rfl⟩, hb1⟩
  go_wp2
  refine leaves_cons (f := 85) (args := #[]) (by simp) (by simp [go_sem]) ?_
  refine (catchI_panicking _ _ [] _).mono ?_
  rintro e u' w'' ⟨rfl, rfl, rfl⟩
  simp [Leaves, settle, results, Tryz.results75, go_sem]
  exact hb1

end Go.Proofs.YtlmbnefoobameaaGreatDoor
end

section
namespace Go.Proofs.YtlmbnefoobameaaGreatDoor.OI
open Go Go.RowKit
attribute [local go_sem ↓] Go.wp_at_zero Go.wp_at_succ

/-- What ParseInt reads numbers by. -/
structure NumsO (w : World) (B : Nat) : Prop where
  pow : Pow10At w
  errs : ErrsAt w
  b1 : 0 < B
  b2 : 3 < B
  b3 : 4 < B
theorem NumsO.below {w w' : World} {B : Nat} (h : NumsO w B) (hb : Below B w w') : NumsO w' B := ⟨h.pow.below hb h.b1, h.errs.below hb ⟨h.b2, h.b3⟩, h.b1, h.b2, h.b3⟩
/-- The reader's variables; the tables lie below B. -/
structure RO (B : Nat) (w : World) (ps pa : Nat) (s : ByteArray) (j : Nat) : Prop where
  rd : RAt w ps pa s j
  nums : NumsO w B
  ls : B ≤ ps
  la : B ≤ pa
section
variable {B : Nat} {w w' : World} {ps pa j j' : Nat} {s : ByteArray}
theorem RO.lts (h : RO B w ps pa s j) : ps < w.heap.size := h.rd.lts
theorem RO.lta (h : RO B w ps pa s j) : pa < w.heap.size := h.rd.lta
theorem RO.below {C : Nat} (h : RO B w ps pa s j) (hb : Below C w w') (h1 : ps < C) (h2 : pa < C) : RO B w' ps pa s j :=
  ⟨h.rd.below hb h1 h2, h.nums.below (hb.mono (by have := h.ls; omega)), h.ls, h.la⟩
theorem RO.keep (h : RO B w ps pa s j) (hb : Below w.heap.size w w') : RO B w' ps pa s j := h.below hb h.lts h.lta
theorem RO.read (h : RO B w ps pa s j) (hr : RAt w' ps pa s j') (hg : w.grownBy w' (some pa)) : RO B w' ps pa s j' := by
  have hla := h.la
  have hlt := h.lta
  have hb : Below B w w' := ⟨hg.os, hg.tape, hg.output, hg.size, fun i hi => hg.block i (by omega) (fun e => by injection e with e; omega)⟩
  exact ⟨hr, h.nums.below hb, h.ls, h.la⟩
theorem RO.tab (h : RO B w ps pa s j) : 0 < w.heap.size := by
  have h1 := h.nums.b1
  have h2 := h.ls
  have h3 := h.lts
  omega
end
abbrev rdv (ps pa : Nat) : Value := .agg #[rdAcc ps pa, rdTak ps pa, rdEnd ps pa]
/-- The reader's struct lies in the first new block, the result's box in the second. -/
structure Hold (B : Nat) (w W : World) (ps pa : Nat) (s : ByteArray) (j : Nat) : Prop where
  rd : RO B W ps pa s j
  rdr : Whole1 W w.heap.size 41 #[rdAcc ps pa, rdTak ps pa, rdEnd ps pa]
  zero : Whole1 W (w.heap.size + 1) 26 #[.int .i64 0, .string ⟨#[]⟩, .int .i64 0, .slice none 0 0]
  grown : w.grownBy W (some pa)
  hs : ps < w.heap.size
  ha : pa < w.heap.size
/-- What reading hands back: false, and nothing is to be read; or true, and the optic that is to be read. -/
def PostR (x : Option (Ot × List UInt8)) (B ps pa : Nat) (s : ByteArray) (w : World) (e : Ending) (w' : World) : Prop :=
  ∃ k nm n A m ac ok j, e = .returned (.tuple #[.agg #[.int .i64 k, .string nm, .int .i64 n, .slice A m ac], .bool ok]) ∧ RO B w' ps pa s j ∧ w.grownBy w' (some pa) ∧
    ((ok = false ∧ x = none) ∨ (ok = true ∧ ∃ t, x = some (t, restOf s j) ∧ OwnOt w' w.heap.size (.agg #[.int .i64 k, .string nm, .int .i64 n, .slice A m ac]) t))
section
variable {B : Nat} {w W W' : World} {ps pa j j' C : Nat} {s : ByteArray}
theorem Hold.start (h : RO B w ps pa s j) : Hold B w ((w.alloc (.cells #[rdAcc ps pa, rdTak ps pa, rdEnd ps pa] 41)).alloc (.cells #[.int .i64 0, .string ⟨#[]⟩, .int .i64 0, .slice none 0 0] 26)) ps pa s j := by
  obtain ⟨hb, p0, q0, _⟩ := boxes2 w 41 26 #[rdAcc ps pa, rdTak ps pa, rdEnd ps pa] #[.int .i64 0, .string ⟨#[]⟩, .int .i64 0, .slice none 0 0]
  exact ⟨h.keep hb, p0, q0, grown_low (only_refl w (some pa)) hb (Nat.le_refl _), h.lts, h.lta⟩
theorem Hold.read (h : Hold B w W ps pa s j) (hr : RAt W' ps pa s j') (hg : W.grownBy W' (some pa)) : Hold B w W' ps pa s j' := by
  have ha := h.ha
  exact ⟨h.rd.read hr hg, (hg.block _ h.rdr.lt (fun e => by injection e with e; omega)).trans h.rdr, (hg.block _ h.zero.lt (fun e => by injection e with e; omega)).trans h.zero, only_trans h.grown hg, h.hs, ha⟩
theorem Hold.read' (h : Hold B w W ps pa s j) (hr : RO B W' ps pa s j') (hg : W.grownBy W' (some pa)) : Hold B w W' ps pa s j' := h.read hr.rd hg
theorem Hold.more (h : Hold B w W ps pa s j) (hb : Below C W W') (hC : w.heap.size + 1 < C) : Hold B w W' ps pa s j := by
  have ha := h.ha
  have hs := h.hs
  exact ⟨h.rd.below hb (by omega) (by omega), h.rdr.below hb (by omega), h.zero.below hb hC, grown_low h.grown hb (by omega), hs, ha⟩
theorem Hold.keep (h : Hold B w W ps pa s j) (hb : Below W.heap.size W W') : Hold B w W' ps pa s j := h.more hb h.zero.lt
theorem Hold.drew (h : Hold B w W ps pa s j) : Hold B w W.drew ps pa s j := h.keep (Below.refl W.heap.size W).drew
theorem Hold.no (h : Hold B w W ps pa s j) {x : Option (Ot × List UInt8)} (hx : x = none) (k n : Int) (nm : ByteArray) (A : Option Addr) (m ac : Nat) (a b c d : Value) :
    PostR x B ps pa s w (.returned (.tuple #[.agg #[.int .i64 k, .string nm, .int .i64 n, .slice A m ac], .bool false])) ((((W.setCell ⟨w.heap.size + 1, 0, none⟩ a).setCell ⟨w.heap.size + 1, 1, none⟩ b).setCell ⟨w.heap.size + 1, 2, none⟩ c).setCell ⟨w.heap.size + 1, 3, none⟩ d) := by
  have hb := oset4_below W (w.heap.size + 1) a b c d
  have hs := h.hs
  have ha := h.ha
  exact ⟨k, nm, n, A, m, ac, false, j, rfl, h.rd.below hb (by omega) (by omega), grown_low h.grown (hb.mono (Nat.le_succ _)) (Nat.le_refl _), Or.inl ⟨rfl, hx⟩⟩
theorem Hold.yes (h : Hold B w W ps pa s j) {x : Option (Ot × List UInt8)} {t : Ot} {k n : Int} {nm : ByteArray} {A : Option Addr} {m ac : Nat} (hx : x = some (t, restOf s j)) (hO : OwnOt W (w.heap.size + 2) (.agg #[.int .i64 k, .string nm, .int .i64 n, .slice A m ac]) t) (a b c d : Value) :
    PostR x B ps pa s w (.returned (.tuple #[.agg #[.int .i64 k, .string nm, .int .i64 n, .slice A m ac], .bool true])) ((((W.setCell ⟨w.heap.size + 1, 0, none⟩ a).setCell ⟨w.heap.size + 1, 1, none⟩ b).setCell ⟨w.heap.size + 1, 2, none⟩ c).setCell ⟨w.heap.size + 1, 3, none⟩ d) := by
  have hb := oset4_below W (w.heap.size + 1) a b c d
  have hs := h.hs
  have ha := h.ha
  exact ⟨k, nm, n, A, m, ac, true, j, rfl, h.rd.below hb (by omega) (by omega), grown_low h.grown (hb.mono (Nat.le_succ _)) (Nat.le_refl _), Or.inr ⟨rfl, t, hx, (hO.set4 (w.heap.size + 1) (by omega) a b c d).base (by omega)⟩⟩
/-- What another reader handed back is handed on. -/
theorem Hold.pass (h : Hold B w W ps pa s j) {x : Option (Ot × List UInt8)} {k n : Int} {nm : ByteArray} {A : Option Addr} {m ac : Nat} {ok : Bool} (hx : (ok = false ∧ x = none) ∨ (ok = true ∧ ∃ t, x = some (t, restOf s j) ∧ OwnOt W (w.heap.size + 2) (.agg #[.int .i64 k, .string nm, .int .i64 n, .slice A m ac]) t)) (a b c d : Value) :
    PostR x B ps pa s w (.returned (.tuple #[.agg #[.int .i64 k, .string nm, .int .i64 n, .slice A m ac], .bool ok])) ((((W.setCell ⟨w.heap.size + 1, 0, none⟩ a).setCell ⟨w.heap.size + 1, 1, none⟩ b).setCell ⟨w.heap.size + 1, 2, none⟩ c).setCell ⟨w.heap.size + 1, 3, none⟩ d) := by
  rcases hx with ⟨rfl, h1⟩ | ⟨rfl, t, h1, h2⟩
  · exact h.no h1 ..
  · exact h.yes h1 h2 ..
end
/-- The reading of an optic of n levels at most. -/
def ReadR (n : Nat) (d : Int) : Prop := ∀ (B : Nat) (w : World) (ps pa j : Nat) (s : ByteArray), RO B w ps pa s j → s.size ≤ 1048576 → Calls Tryz.prog 18 #[rdv ps pa, .int .i64 d] w (PostR (rdOi n (restOf s j)) B ps pa s w)

/-- What readSign hands back. -/
def PostS (B ps pa : Nat) (s : ByteArray) (j : Nat) (w : World) (e : Ending) (w' : World) : Prop :=
  ∃ k ok j', e = .returned (.tuple #[.int .i64 k, .bool ok]) ∧ RO B w' ps pa s j' ∧ w.grownBy w' (some pa) ∧
    ((ok = false ∧ eat 59 (restOf s j) = none ∧ eat 124 (restOf s j) = none) ∨ (ok = true ∧ ((k = 12 ∧ eat 59 (restOf s j) = some (restOf s j')) ∨ (k = 13 ∧ eat 59 (restOf s j) = none ∧ eat 124 (restOf s j) = some (restOf s j')))))
set_option maxHeartbeats 4000000 in
theorem readSign_any (B : Nat) (w : World) (ps pa j : Nat) (s : ByteArray) (hr : RO B w ps pa s j) (hs : s.size ≤ 1048576) :
    Calls Tryz.prog 67 #[rdv ps pa] w (PostS B ps pa s j w) := by
  obtain ⟨hb0, v0, hs0⟩ := boxes1 w 41 #[rdAcc ps pa, rdTak ps pa, rdEnd ps pa]
  have H0 := Lib.hid (hr.keep hb0)
  have G0 := Lib.hid (grown_low (only_refl w (some pa)) hb0 (Nat.le_refl _))
  have V0 : Hid (Whole1 (w.alloc (.cells #[rdAcc ps pa, rdTak ps pa, rdEnd ps pa] 41)) w.heap.size 41 #[rdAcc ps pa, rdTak ps pa, rdEnd ps pa]) := Lib.hid v0
  have hpa := hr.lta
  clear hr hb0 v0 hs0
  go_enter Tryz.func67, Tryz.ntmps67
  go_upto_region 1 with fail
  generalize w.alloc (.cells #[rdAcc ps pa, rdTak ps pa, rdEnd ps pa] 41) = wa at *
  have b0 : wa.cell? ⟨w.heap.size, 0, none⟩ = some (rdAcc ps pa) := V0.out.cell 0
  cases hx : eat 59 (restOf s j) with
  | some q1 =>
    have hx1 := (eats_one 59 _).trans hx
    obtain ⟨hle1, rfl⟩ := eats_rest (p := ⟨#[59]⟩) H0.out.rd.le hx1
    have HC := Lib.hid (accE_yes ps pa j s ⟨#[59]⟩ _ wa H0.out.rd hs hx1)
    have HX := Lib.hid hx
    clear hx hx1
    generalize j + (⟨#[59]⟩ : ByteArray).size = j2 at *
    go_wp2_with fail
    refine HC.out.mono ?_
    rintro e w2 ⟨rfl, hr2, hg2⟩
    have H2 := Lib.hid (H0.out.read hr2 hg2)
    have G2 := Lib.hid (only_trans G0.out hg2)
    clear hr2 hg2
    go_wp2
    exact bodyPost_ret (v := .tuple #[.int .i64 12, .bool true]) (by simp [results, Tryz.results67, go_sem]) rfl ⟨12, true, j2, rfl, H2.out, G2.out, Or.inr ⟨rfl, Or.inl ⟨rfl, HX.out⟩⟩⟩
  | none =>
    have HC := Lib.hid (accE_no ps pa j s ⟨#[59]⟩ wa H0.out.rd ((eats_one 59 _).trans hx))
    have HX := Lib.hid hx
    clear hx
    go_wp2_with fail
    refine HC.out.mono ?_
    rintro e w2 ⟨rfl, hr2, hg2⟩
    have H2 := Lib.hid (H0.out.read hr2 hg2)
    have G2 := Lib.hid (only_trans G0.out hg2)
    have V2 := Lib.hid (V0.out.grownO hg2 (by omega))
    clear hr2 hg2 b0
    have b0 : w2.cell? ⟨w.heap.size, 0, none⟩ = some (rdAcc ps pa) := V2.out.cell 0
    cases hx2 : eat 124 (restOf s j) with
    | some q1 =>
      have hx1 := (eats_one 124 _).trans hx2
      obtain ⟨hle1, rfl⟩ := eats_rest (p := ⟨#[124]⟩) H2.out.rd.le hx1
      have HC2 := Lib.hid (accE_yes ps pa j s ⟨#[124]⟩ _ w2 H2.out.rd hs hx1)
      have HX2 := Lib.hid hx2
      clear hx2 hx1
      generalize j + (⟨#[124]⟩ : ByteArray).size = j2 at *
      go_wp2_with fail
      refine HC2.out.mono ?_
      rintro e w3 ⟨rfl, hr3, hg3⟩
      have H3 := Lib.hid (H2.out.read hr3 hg3)
      have G3 := Lib.hid (only_trans G2.out hg3)
      clear hr3 hg3
      go_wp2
      exact bodyPost_ret (v := .tuple #[.int .i64 13, .bool true]) (by simp [results, Tryz.results67, go_sem]) rfl ⟨13, true, j2, rfl, H3.out, G3.out, Or.inr ⟨rfl, Or.inr ⟨rfl, HX.out, HX2.out⟩⟩⟩
    | none =>
      have HC2 := Lib.hid (accE_no ps pa j s ⟨#[124]⟩ w2 H2.out.rd ((eats_one 124 _).trans hx2))
      have HX2 := Lib.hid hx2
      clear hx2
      go_wp2_with fail
      refine HC2.out.mono ?_
      rintro e w3 ⟨rfl, hr3, hg3⟩
      have H3 := Lib.hid (H2.out.read hr3 hg3)
      have G3 := Lib.hid (only_trans G2.out hg3)
      clear hr3 hg3
      go_wp2
      exact bodyPost_ret (v := .tuple #[.int .i64 0, .bool false]) (by simp [results, Tryz.results67, go_sem]) rfl ⟨0, false, j, rfl, H3.out, G3.out, Or.inl ⟨rfl, HX.out, HX2.out⟩⟩

set_option maxHeartbeats 4000000 in
theorem readStep_any (k : Int) (B : Nat) (w : World) (ps pa j : Nat) (s : ByteArray) (hr : RO B w ps pa s j) (hs : s.size ≤ 1048576) :
    Calls Tryz.prog 70 #[rdv ps pa, .int .i64 k] w (PostR (rdStepO k (restOf s j)) B ps pa s w) := by
  have HH0 := Lib.hid (Hold.start hr)
  clear hr
  go_enter Tryz.func70, Tryz.ntmps70
  go_upto_region 1 with fail
  generalize (w.alloc (.cells #[rdAcc ps pa, rdTak ps pa, rdEnd ps pa] 41)).alloc (.cells #[.int .i64 0, .string ⟨#[]⟩, .int .i64 0, .slice none 0 0] 26) = wa at *
  have b0 : wa.cell? ⟨w.heap.size, 0, none⟩ = some (rdAcc ps pa) := HH0.out.rdr.cell 0
  have b1 : wa.cell? ⟨w.heap.size, 1, none⟩ = some (rdTak ps pa) := HH0.out.rdr.cell 1
  have b2 : wa.cell? ⟨w.heap.size, 2, none⟩ = some (rdEnd ps pa) := HH0.out.rdr.cell 2
  cases hx : eat 32 (restOf s j) with
  | none =>
    have HC := Lib.hid (accE_no ps pa j s ⟨#[32]⟩ wa HH0.out.rd.rd ((eats_one 32 _).trans hx))
    have HX := Lib.hid (show rdStepO k (restOf s j) = none by rw [rdStepO, hx])
    clear hx
    go_wp2_with fail
    refine HC.out.mono ?_
    rintro e w2 ⟨rfl, hr2, hg2⟩
    have HH2 := Lib.hid (HH0.out.read hr2 hg2)
    clear hr2 hg2 b0 b1 b2
    have d0 : w2.cell? ⟨w.heap.size + 1, 0, none⟩ = some (.int .i64 0) := HH2.out.zero.cell 0
    have d1 : w2.cell? ⟨w.heap.size + 1, 1, none⟩ = some (.string ⟨#[]⟩) := HH2.out.zero.cell 1
    have d2 : w2.cell? ⟨w.heap.size + 1, 2, none⟩ = some (.int .i64 0) := HH2.out.zero.cell 2
    have d3 : w2.cell? ⟨w.heap.size + 1, 3, none⟩ = some (.slice none 0 0) := HH2.out.zero.cell 3
    have f0 : w2.frozen? ⟨w.heap.size + 1, 0, none⟩ = false := HH2.out.zero.free 0
    have f1 : w2.frozen? ⟨w.heap.size + 1, 1, none⟩ = false := HH2.out.zero.free 1
    have f2 : w2.frozen? ⟨w.heap.size + 1, 2, none⟩ = false := HH2.out.zero.free 2
    have f3 : w2.frozen? ⟨w.heap.size + 1, 3, none⟩ = false := HH2.out.zero.free 3
    go_wp2
    exact bodyPost_ret (v := .tuple #[.agg #[.int .i64 0, .string ⟨#[]⟩, .int .i64 0, .slice none 0 0], .bool false]) (by simp [results, Tryz.results70, go_sem, d0, d1, d2, d3]) rfl (HH2.out.no HX.out 0 0 ⟨#[]⟩ none 0 0 _ _ _ _)
  | some q1 =>
    have hx1 := (eats_one 32 _).trans hx
    obtain ⟨hle1, rfl⟩ := eats_rest (p := ⟨#[32]⟩) HH0.out.rd.rd.le hx1
    have HC := Lib.hid (accE_yes ps pa j s ⟨#[32]⟩ _ wa HH0.out.rd.rd hs hx1)
    have HX0 := Lib.hid hx
    clear hx hx1
    generalize j + (⟨#[32]⟩ : ByteArray).size = j2 at *
    go_wp2_with fail
    refine HC.out.mono ?_
    rintro e w2 ⟨rfl, hr2, hg2⟩
    have HH2 := Lib.hid (HH0.out.read hr2 hg2)
    clear hr2 hg2 b0 b1 b2
    have b0 : w2.cell? ⟨w.heap.size, 0, none⟩ = some (rdAcc ps pa) := HH2.out.rdr.cell 0
    have b1 : w2.cell? ⟨w.heap.size, 1, none⟩ = some (rdTak ps pa) := HH2.out.rdr.cell 1
    have b2 : w2.cell? ⟨w.heap.size, 2, none⟩ = some (rdEnd ps pa) := HH2.out.rdr.cell 2
    have HT := Lib.hid (takeRun_any 76 enters_int intR intC intR_byte intR_high pred_int ps pa j2 s w2 HH2.out.rd.rd hs)
    go_wp2_with fail
    refine HT.out.mono ?_
    rintro e w3 ⟨k1, hk1, ⟨rfl, hr3, hg3⟩, hd3, ht3⟩
    have HH3 := Lib.hid (HH2.out.read hr3 hg3)
    have hwz : (s.extract j2 k1).size ≤ 1048576 := by rw [ByteArray.size_extract]; omega
    have hwd : (s.extract j2 k1).data.toList = (restOf s j2).takeWhile intC := by rw [← ht3]
    have HD := Lib.hid hd3
    clear hr3 hg3 hd3 ht3 b0 b1 b2
    cases hu : unItoa ((restOf s j2).takeWhile intC) with
    | none =>
      have HX := Lib.hid (show rdStepO k (restOf s j) = none by rw [rdStepO, HX0.out]; simp only [hu])
      have HP := Lib.hid (implParseInt_no (s.extract j2 k1) w3 hwz (fun z hz1 hz2 he => by rw [← hwd, unItoa_of he hz1 hz2] at hu; cases hu) HH3.out.rd.nums.pow HH3.out.rd.nums.errs HH3.out.rd.tab)
      clear hu hwd
      go_wp2_with fail
      refine HP.out.mono ?_
      rintro e w4 ⟨rfl, hb4⟩
      have HH4 := Lib.hid (HH3.out.keep hb4)
      clear hb4
      have d0 : w4.cell? ⟨w.heap.size + 1, 0, none⟩ = some (.int .i64 0) := HH4.out.zero.cell 0
      have d1 : w4.cell? ⟨w.heap.size + 1, 1, none⟩ = some (.string ⟨#[]⟩) := HH4.out.zero.cell 1
      have d2 : w4.cell? ⟨w.heap.size + 1, 2, none⟩ = some (.int .i64 0) := HH4.out.zero.cell 2
      have d3 : w4.cell? ⟨w.heap.size + 1, 3, none⟩ = some (.slice none 0 0) := HH4.out.zero.cell 3
      have f0 : w4.frozen? ⟨w.heap.size + 1, 0, none⟩ = false := HH4.out.zero.free 0
      have f1 : w4.frozen? ⟨w.heap.size + 1, 1, none⟩ = false := HH4.out.zero.free 1
      have f2 : w4.frozen? ⟨w.heap.size + 1, 2, none⟩ = false := HH4.out.zero.free 2
      have f3 : w4.frozen? ⟨w.heap.size + 1, 3, none⟩ = false := HH4.out.zero.free 3
      go_wp2
      exact bodyPost_ret (v := .tuple #[.agg #[.int .i64 k, .string ⟨#[]⟩, .int .i64 0, .slice none 0 0], .bool false]) (by simp [results, Tryz.results70, go_sem, d0, d1, d2, d3]) rfl (HH4.out.no HX.out k 0 ⟨#[]⟩ none 0 0 _ _ _ _)
    | some z =>
      have hz := unItoa_some hu
      have HX := Lib.hid (show rdStepO k (restOf s j) = some (.mk k z ⟨#[]⟩ [], restOf s k1) by rw [rdStepO, HX0.out]; simp only [hu, HD.out])
      have HP := Lib.hid (implParseInt_yes (s.extract j2 k1) z w3 hwz hz.2.1 hz.2.2 (hwd.trans hz.1) HH3.out.rd.nums.pow HH3.out.rd.tab)
      clear hu hwd hz
      go_wp2_with fail
      refine HP.out.mono ?_
      rintro e w4 ⟨rfl, hb4⟩
      have HH4 := Lib.hid (HH3.out.keep hb4)
      clear hb4
      have d0 : w4.cell? ⟨w.heap.size + 1, 0, none⟩ = some (.int .i64 0) := HH4.out.zero.cell 0
      have d1 : w4.cell? ⟨w.heap.size + 1, 1, none⟩ = some (.string ⟨#[]⟩) := HH4.out.zero.cell 1
      have d2 : w4.cell? ⟨w.heap.size + 1, 2, none⟩ = some (.int .i64 0) := HH4.out.zero.cell 2
      have d3 : w4.cell? ⟨w.heap.size + 1, 3, none⟩ = some (.slice none 0 0) := HH4.out.zero.cell 3
      have f0 : w4.frozen? ⟨w.heap.size + 1, 0, none⟩ = false := HH4.out.zero.free 0
      have f1 : w4.frozen? ⟨w.heap.size + 1, 1, none⟩ = false := HH4.out.zero.free 1
      have f2 : w4.frozen? ⟨w.heap.size + 1, 2, none⟩ = false := HH4.out.zero.free 2
      have f3 : w4.frozen? ⟨w.heap.size + 1, 3, none⟩ = false := HH4.out.zero.free 3
      go_wp2
      exact bodyPost_ret (v := .tuple #[.agg #[.int .i64 k, .string ⟨#[]⟩, .int .i64 z, .slice none 0 0], .bool true]) (by simp [results, Tryz.results70, go_sem, d0, d1, d2, d3]) rfl (HH4.out.yes HX.out (OwnOt.leaf _ _ k z ⟨#[]⟩ (Nat.zero_le _)) _ _ _ _)

end Go.Proofs.YtlmbnefoobameaaGreatDoor.OI
end
