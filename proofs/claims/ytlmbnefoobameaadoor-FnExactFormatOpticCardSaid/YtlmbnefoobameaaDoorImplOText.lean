/- impl.FormatOptic. -/
import Derived.Test.YtlmbnefoobameaaDoorSpecOText
import Derived.Test.YtlmbnefoobameaaDoorImplOForm
import Derived.Deep.RegionHeld3
import Derived.Deep.DrawnRows
import Derived.BigGuard
namespace Go.Proofs.YtlmbnefoobameaaDoor
open Go Go.RowKit

/-- The table of powers lies below. -/
def TabO (w : World) : Prop := Pow10At w ∧ 1 < w.heap.size
theorem TabO.below {w w' : World} (h : TabO w) (hb : Below w.heap.size w w') : TabO w' := ⟨h.1.below hb h.2, Nat.lt_of_lt_of_le h.2 hb.size⟩
def TextOI (t : Ot) : Prop := ∀ (v : Value) (w : World), OtAt w w.heap.size v t → formOt t = true → sizeOt t ≤ 1000 → TabO w → Calls Tryd.prog 60 #[v] w (StrIs ⟨(txtO t).toArray⟩ w)
theorem byte5p (a : List UInt8) (s : ByteArray) (b : List UInt8) : (⟨#[40]⟩ ++ ⟨a.toArray⟩ ++ s ++ ⟨b.toArray⟩ ++ ⟨#[41]⟩ : ByteArray) = ⟨(40 :: (a ++ (s.data.toList ++ (b ++ [41])))).toArray⟩ := by
  apply ByteArray.ext
  simp only [ByteArray.data_append]
  apply Array.toList_inj.1
  simp
theorem below_drewO {w w' : World} {n : Nat} (h : Below n w.drew w') : Below n w w' := ⟨h.os, h.tape, h.output, h.size, h.block⟩

section
attribute [local go_sem ↓] Go.wp_at_zero Go.wp_at_succ
set_option maxHeartbeats 8000000 in
set_option maxRecDepth 100000 in
theorem pairText_any (k0 n0 : Int) (nm : ByteArray) (a b : Ot) (sg : ByteArray) (hsg : sg.size ≤ 8) (ha : TextOI a) (hb : TextOI b) (hfa : formOt a = true) (hfb : formOt b = true) (hsa : sizeOt a ≤ 1000) (hsb : sizeOt b ≤ 1000) (v : Value) (w : World) (hv : OtAt w w.heap.size v (.mk k0 n0 nm [a, b])) (ht : TabO w) :
    Calls Tryd.prog 101 #[v, .string sg] w (StrIs ⟨(40 :: (txtO a ++ (sg.data.toList ++ (txtO b ++ [41])))).toArray⟩ w) := by
  obtain ⟨A, ac, rfl, _, hts⟩ := hv.open
  simp only [Ot.kind, Ot.num, Ot.name, Ot.args, List.length_cons, List.length_nil, Nat.zero_add, Nat.reduceAdd] at *
  obtain ⟨b0, off, A1, ac1, rfl, hbl, q0, q2, q1, q3, hta⟩ := hts.elem 0 (by simp)
  obtain ⟨b0', off', A2, ac2, he, _, q4, q6, q5, q7, htb⟩ := hts.elem 1 (by simp)
  obtain ⟨rfl, rfl⟩ : b0 = b0' ∧ off = off' := by injection he with he; injection he with h1 h2; exact ⟨h1, h2⟩
  simp only [List.getElem_cons_zero, List.getElem_cons_succ, Nat.zero_mul, Nat.add_zero, Nat.one_mul, Nat.add_assoc, Nat.reduceAdd] at q0 q1 q2 q3 q4 q5 q6 q7 hta htb
  obtain ⟨hb0, p0, hs0⟩ := boxes1 w 50 #[.int .i64 k0, .string nm, .int .i64 n0, .slice (some ⟨b0, off, none⟩) 2 ac]
  have HTA := Lib.hid (hta.lift hb0 |>.more hb0.size)
  have HTB := Lib.hid (htb.lift hb0 |>.more hb0.size)
  have HTT := Lib.hid (ht.below hb0)
  have HQ0 := Lib.hid ((hb0.cell (p := ⟨b0, off, none⟩) hbl).trans q0)
  have HQ1 := Lib.hid ((hb0.cell (p := ⟨b0, off + 1, none⟩) hbl).trans q1)
  have HQ2 := Lib.hid ((hb0.cell (p := ⟨b0, off + 2, none⟩) hbl).trans q2)
  have HQ3 := Lib.hid ((hb0.cell (p := ⟨b0, off + 3, none⟩) hbl).trans q3)
  have HQ4 := Lib.hid ((hb0.cell (p := ⟨b0, off + 4, none⟩) hbl).trans q4)
  have HQ5 := Lib.hid ((hb0.cell (p := ⟨b0, off + 5, none⟩) hbl).trans q5)
  have HQ6 := Lib.hid ((hb0.cell (p := ⟨b0, off + 6, none⟩) hbl).trans q6)
  have HQ7 := Lib.hid ((hb0.cell (p := ⟨b0, off + 7, none⟩) hbl).trans q7)
  have HC3 := Lib.hid (show (w.alloc (.cells #[.int .i64 k0, .string nm, .int .i64 n0, .slice (some ⟨b0, off, none⟩) 2 ac] 50)).cell? ⟨w.heap.size, 3, none⟩ = some (.slice (some ⟨b0, off, none⟩) 2 ac) from p0.cell 3)
  have HBL := Lib.hid (show w.heap.size < (w.alloc (.cells #[.int .i64 k0, .string nm, .int .i64 n0, .slice (some ⟨b0, off, none⟩) 2 ac] 50)).heap.size ∧ b0 < (w.alloc (.cells #[.int .i64 k0, .string nm, .int .i64 n0, .slice (some ⟨b0, off, none⟩) 2 ac] 50)).heap.size from ⟨p0.lt, by have := hb0.size; omega⟩)
  have HA := Lib.hid (fun W (h : Below (w.alloc (.cells #[.int .i64 k0, .string nm, .int .i64 n0, .slice (some ⟨b0, off, none⟩) 2 ac] 50)).heap.size (w.alloc (.cells #[.int .i64 k0, .string nm, .int .i64 n0, .slice (some ⟨b0, off, none⟩) 2 ac] 50)) W) => ha _ W ((HTA.out.lift h).more h.size) hfa (by omega) (HTT.out.below h))
  have HB := Lib.hid (fun W (h : Below (w.alloc (.cells #[.int .i64 k0, .string nm, .int .i64 n0, .slice (some ⟨b0, off, none⟩) 2 ac] 50)).heap.size (w.alloc (.cells #[.int .i64 k0, .string nm, .int .i64 n0, .slice (some ⟨b0, off, none⟩) 2 ac] 50)) W) => hb _ W ((HTB.out.lift h).more h.size) hfb (by omega) (HTT.out.below h))
  have hla := txtO_len a hfa
  have hlb := txtO_len b hfb
  have HE := Lib.hid (byte5p (txtO a) sg (txtO b))
  have HB0 := Lib.hid hb0
  clear ha hb hv hts hta htb q0 q1 q2 q3 q4 q5 q6 q7 hb0 p0 hs0 he ht
  go_enter Tryd.func101, Tryd.ntmps101
  go_upto_region 1 with fail
  generalize w.alloc (.cells #[.int .i64 k0, .string nm, .int .i64 n0, .slice (some ⟨b0, off, none⟩) 2 ac] 50) = w0 at *
  generalize txtO a = ta at *
  generalize txtO b = tb at *
  have hj1 : ¬ 9223372036854775807 < 1 + ta.length := by omega
  have hj2 : ¬ 9223372036854775807 < 1 + ta.length + sg.size := by omega
  have hj3 : ¬ 9223372036854775807 < 1 + ta.length + sg.size + tb.length := by omega
  have hj4 : ¬ 9223372036854775807 < 1 + ta.length + sg.size + tb.length + 1 := by omega
  have hB : Below w0.heap.size w0 w0.drew := (Below.refl _ _).drew
  have xc : w0.drew.cell? ⟨w.heap.size, 3, none⟩ = some (.slice (some ⟨b0, off, none⟩) 2 ac) := (hB.cell (p := ⟨w.heap.size, 3, none⟩) HBL.out.1).trans HC3.out
  have x0 : w0.drew.cell? ⟨b0, off, none⟩ = some (.int .i64 a.kind) := (hB.cell (p := ⟨b0, off, none⟩) HBL.out.2).trans HQ0.out
  have x1 : w0.drew.cell? ⟨b0, off + 1, none⟩ = some (.string a.name) := (hB.cell (p := ⟨b0, off + 1, none⟩) HBL.out.2).trans HQ1.out
  have x2 : w0.drew.cell? ⟨b0, off + 2, none⟩ = some (.int .i64 a.num) := (hB.cell (p := ⟨b0, off + 2, none⟩) HBL.out.2).trans HQ2.out
  have x3 : w0.drew.cell? ⟨b0, off + 3, none⟩ = some (.slice A1 a.args.length ac1) := (hB.cell (p := ⟨b0, off + 3, none⟩) HBL.out.2).trans HQ3.out
  have x4 : w0.drew.cell? ⟨b0, off + 4, none⟩ = some (.int .i64 b.kind) := (hB.cell (p := ⟨b0, off + 4, none⟩) HBL.out.2).trans HQ4.out
  have x5 : w0.drew.cell? ⟨b0, off + 5, none⟩ = some (.string b.name) := (hB.cell (p := ⟨b0, off + 5, none⟩) HBL.out.2).trans HQ5.out
  have x6 : w0.drew.cell? ⟨b0, off + 6, none⟩ = some (.int .i64 b.num) := (hB.cell (p := ⟨b0, off + 6, none⟩) HBL.out.2).trans HQ6.out
  have x7 : w0.drew.cell? ⟨b0, off + 7, none⟩ = some (.slice A2 b.args.length ac2) := (hB.cell (p := ⟨b0, off + 7, none⟩) HBL.out.2).trans HQ7.out
  have HB1 := Lib.hid (HA.out w0.drew hB)
  clear hB
  go_region_held3 (fun x : World => x.cell? ⟨w.heap.size, 3, none⟩ = some (.slice (some ⟨b0, off, none⟩) 2 ac) ∧ x.cell? ⟨b0, off, none⟩ = some (.int .i64 a.kind) ∧ x.cell? ⟨b0, off + 1, none⟩ = some (.string a.name) ∧ x.cell? ⟨b0, off + 2, none⟩ = some (.int .i64 a.num) ∧ x.cell? ⟨b0, off + 3, none⟩ = some (.slice A1 a.args.length ac1) ∧ x.cell? ⟨b0, off + 4, none⟩ = some (.int .i64 b.kind) ∧ x.cell? ⟨b0, off + 5, none⟩ = some (.string b.name) ∧ x.cell? ⟨b0, off + 6, none⟩ = some (.int .i64 b.num) ∧ x.cell? ⟨b0, off + 7, none⟩ = some (.slice A2 b.args.length ac2)) (first | with_reducible exact ⟨xc, x0, x1, x2, x3, x4, x5, x6, x7⟩ | with_reducible exact ⟨yc, y0, y1, y2, y3, y4, y5, y6, y7⟩ | with_reducible exact ⟨zc, z0, z1, z2, z3, z4, z5, z6, z7⟩) (first
    | (go_simp; go_at_call 60; (with_reducible refine HB1.out.mono ?_); rintro e w1 ⟨rfl, hb1⟩; have hB : Below w0.heap.size w0 w1 := (Below.refl w0.heap.size w0).drew.trans hb1; have yc : w1.cell? ⟨w.heap.size, 3, none⟩ = some (.slice (some ⟨b0, off, none⟩) 2 ac) := (hB.cell (p := ⟨w.heap.size, 3, none⟩) HBL.out.1).trans HC3.out; have y0 : w1.cell? ⟨b0, off, none⟩ = some (.int .i64 a.kind) := (hB.cell (p := ⟨b0, off, none⟩) HBL.out.2).trans HQ0.out; have y1 : w1.cell? ⟨b0, off + 1, none⟩ = some (.string a.name) := (hB.cell (p := ⟨b0, off + 1, none⟩) HBL.out.2).trans HQ1.out; have y2 : w1.cell? ⟨b0, off + 2, none⟩ = some (.int .i64 a.num) := (hB.cell (p := ⟨b0, off + 2, none⟩) HBL.out.2).trans HQ2.out; have y3 : w1.cell? ⟨b0, off + 3, none⟩ = some (.slice A1 a.args.length ac1) := (hB.cell (p := ⟨b0, off + 3, none⟩) HBL.out.2).trans HQ3.out; have y4 : w1.cell? ⟨b0, off + 4, none⟩ = some (.int .i64 b.kind) := (hB.cell (p := ⟨b0, off + 4, none⟩) HBL.out.2).trans HQ4.out; have y5 : w1.cell? ⟨b0, off + 5, none⟩ = some (.string b.name) := (hB.cell (p := ⟨b0, off + 5, none⟩) HBL.out.2).trans HQ5.out; have y6 : w1.cell? ⟨b0, off + 6, none⟩ = some (.int .i64 b.num) := (hB.cell (p := ⟨b0, off + 6, none⟩) HBL.out.2).trans HQ6.out; have y7 : w1.cell? ⟨b0, off + 7, none⟩ = some (.slice A2 b.args.length ac2) := (hB.cell (p := ⟨b0, off + 7, none⟩) HBL.out.2).trans HQ7.out; have HB2 := Lib.hid (HB.out w1 hB); have hBk1 := Lib.hid hB; clear hB hb1)
    | (go_simp; go_at_call 60; (with_reducible refine HB2.out.mono ?_); rintro e w2 ⟨rfl, hb2⟩; have hB : Below w0.heap.size w0 w2 := hBk1.out.trans (hb2.mono hBk1.out.size); have zc : w2.cell? ⟨w.heap.size, 3, none⟩ = some (.slice (some ⟨b0, off, none⟩) 2 ac) := (hB.cell (p := ⟨w.heap.size, 3, none⟩) HBL.out.1).trans HC3.out; have z0 : w2.cell? ⟨b0, off, none⟩ = some (.int .i64 a.kind) := (hB.cell (p := ⟨b0, off, none⟩) HBL.out.2).trans HQ0.out; have z1 : w2.cell? ⟨b0, off + 1, none⟩ = some (.string a.name) := (hB.cell (p := ⟨b0, off + 1, none⟩) HBL.out.2).trans HQ1.out; have z2 : w2.cell? ⟨b0, off + 2, none⟩ = some (.int .i64 a.num) := (hB.cell (p := ⟨b0, off + 2, none⟩) HBL.out.2).trans HQ2.out; have z3 : w2.cell? ⟨b0, off + 3, none⟩ = some (.slice A1 a.args.length ac1) := (hB.cell (p := ⟨b0, off + 3, none⟩) HBL.out.2).trans HQ3.out; have z4 : w2.cell? ⟨b0, off + 4, none⟩ = some (.int .i64 b.kind) := (hB.cell (p := ⟨b0, off + 4, none⟩) HBL.out.2).trans HQ4.out; have z5 : w2.cell? ⟨b0, off + 5, none⟩ = some (.string b.name) := (hB.cell (p := ⟨b0, off + 5, none⟩) HBL.out.2).trans HQ5.out; have z6 : w2.cell? ⟨b0, off + 6, none⟩ = some (.int .i64 b.num) := (hB.cell (p := ⟨b0, off + 6, none⟩) HBL.out.2).trans HQ6.out; have z7 : w2.cell? ⟨b0, off + 7, none⟩ = some (.slice A2 b.args.length ac2) := (hB.cell (p := ⟨b0, off + 7, none⟩) HBL.out.2).trans HQ7.out; have hBk2 := Lib.hid hB; clear hB hb2))
  all_goals
    go_wp2
    go_ret
    exact ⟨by rw [← HE.out]; rfl, HB0.out.trans (hBk2.out.mono HB0.out.size)⟩
end

set_option maxHeartbeats 8000000 in
set_option maxRecDepth 100000 in
theorem implTextO_of (k0 n0 : Int) (nm : ByteArray) (ts : List Ot) (hall : ∀ i, (h : i < ts.length) → TextOI ts[i]) : TextOI (.mk k0 n0 nm ts) := by
  intro v w hv hf hsz ht
  have htx : txtO (.mk k0 n0 nm ts) = nodeTxtO k0 n0 nm (txtOs ts) := by rw [txtO]
  rw [formOt, Bool.and_eq_true] at hf
  have hfa := formOts_at ts hf.1
  have hsz2 : 1 + sizeOts ts ≤ 1000 := by rw [sizeOt] at hsz; exact hsz
  have HFORM := Lib.hid (nodeOB_forms hf.2)
  have HTX := Lib.hid htx
  have hv0 := hv
  obtain ⟨A, ac, rfl, hnm, ha⟩ := hv.open
  simp only [Ot.kind, Ot.num, Ot.name, Ot.args] at *
  obtain ⟨hb0, p0, hs0⟩ := boxes1 w 50 #[.int .i64 k0, .string nm, .int .i64 n0, .slice A ts.length ac]
  have HTT := Lib.hid (ht.below hb0)
  have ha0 := (ha.up hb0)
  have HV0 := Lib.hid (hv0.lift hb0 |>.more hb0.size)
  have HB := Lib.hid hb0
  have HFA := Lib.hid hfa
  have HALL := Lib.hid hall
  have c0 : (w.alloc (.cells #[.int .i64 k0, .string nm, .int .i64 n0, .slice A ts.length ac] 50)).cell? ⟨w.heap.size, 0, none⟩ = some (.int .i64 k0) := p0.cell 0
  have c1 : (w.alloc (.cells #[.int .i64 k0, .string nm, .int .i64 n0, .slice A ts.length ac] 50)).cell? ⟨w.heap.size, 1, none⟩ = some (.string nm) := p0.cell 1
  have c2 : (w.alloc (.cells #[.int .i64 k0, .string nm, .int .i64 n0, .slice A ts.length ac] 50)).cell? ⟨w.heap.size, 2, none⟩ = some (.int .i64 n0) := p0.cell 2
  have c3 : (w.alloc (.cells #[.int .i64 k0, .string nm, .int .i64 n0, .slice A ts.length ac] 50)).cell? ⟨w.heap.size, 3, none⟩ = some (.slice A ts.length ac) := p0.cell 3
  clear hv hv0 hf htx hfa hnm ha hb0 p0 hs0 hall ht
  go_enter Tryd.func60, Tryd.ntmps60
  go_upto_region 1 with fail
  generalize (w.alloc (.cells #[.int .i64 k0, .string nm, .int .i64 n0, .slice A ts.length ac] 50)) = w0 at *
  rcases HFORM.out with ⟨hq0, rfl, rfl, rfl⟩ | ⟨hq0, rfl, hnm, rfl⟩ | ⟨hq0, hn, rfl, rfl⟩ | ⟨rfl, rfl, rfl, t, rfl⟩ | ⟨hq0, rfl, rfl, a, b, rfl⟩
  · rcases hq0 with rfl | rfl | rfl | rfl | rfl
    all_goals
      go_wp2
      go_ret
      exact ⟨by rw [HTX.out]; rfl, HB.out⟩
  · rcases hq0 with rfl | rfl | rfl
    · have hnz := name_len hnm
      have hj0 : ¬ 9223372036854775807 < 1 + nm.size := by omega
      have HE : Hid (txtO (.mk 2 0 nm []) = [46] ++ nm.data.toList) := Lib.hid (by rw [HTX.out]; rfl)
      clear hnm hnz
      go_wp2
      go_ret
      exact ⟨by rw [HE.out, lead_bytes]; rfl, HB.out⟩
    · have hnz := name_len hnm
      have hj0 : ¬ 9223372036854775807 < 1 + nm.size := by omega
      have HE : Hid (txtO (.mk 3 0 nm []) = [63] ++ nm.data.toList) := Lib.hid (by rw [HTX.out]; rfl)
      clear hnm hnz
      go_wp2
      go_ret
      exact ⟨by rw [HE.out, lead_bytes]; rfl, HB.out⟩
    · have hnz := name_len hnm
      have hj0 : ¬ 9223372036854775807 < 5 + nm.size := by omega
      have HE : Hid (txtO (.mk 10 0 nm []) = [119, 114, 97, 112, 32] ++ nm.data.toList) := Lib.hid (by rw [HTX.out]; rfl)
      clear hnm hnz
      go_wp2
      go_ret
      exact ⟨by rw [HE.out, lead_bytes]; rfl, HB.out⟩
  · rcases hq0 with rfl | rfl
    · have hn0 := itoa_len n0 (by omega)
      have hj0 : ¬ 9223372036854775807 < 3 + (Lib.itoa n0).length := by omega
      have HE : Hid (txtO (.mk 6 n0 ⟨#[]⟩ []) = [97, 116, 32] ++ Lib.itoa n0) := Lib.hid (by rw [HTX.out]; rfl)
      have HI := Lib.hid (implFormatInt_any n0 w0 (by omega) (by omega) HTT.out.1)
      clear hn hn0
      go_wp2_with fail
      refine HI.out.mono ?_
      rintro e w5 ⟨rfl, hb5⟩
      go_wp2
      go_ret
      exact ⟨by rw [HE.out, lead_list]; rfl, HB.out.trans (hb5.mono HB.out.size)⟩
    · have hn0 := itoa_len n0 (by omega)
      have hj0 : ¬ 9223372036854775807 < 4 + (Lib.itoa n0).length := by omega
      have HE : Hid (txtO (.mk 7 n0 ⟨#[]⟩ []) = [97, 100, 100, 32] ++ Lib.itoa n0) := Lib.hid (by rw [HTX.out]; rfl)
      have HI := Lib.hid (implFormatInt_any n0 w0 (by omega) (by omega) HTT.out.1)
      clear hn hn0
      go_wp2_with fail
      refine HI.out.mono ?_
      rintro e w5 ⟨rfl, hb5⟩
      go_wp2
      go_ret
      exact ⟨by rw [HE.out, lead_list]; rfl, HB.out.trans (hb5.mono HB.out.size)⟩
  · obtain ⟨b0, off, A1, ac1, rfl, hbl, q0, q2, q1, q3, htt⟩ := ha0.elem 0 (by simp)
    simp only [List.getElem_cons_zero, Nat.zero_mul, Nat.add_zero] at q0 q1 q2 q3 htt
    have hft := HFA.out 0 (by simp)
    have hlt := txtO_len t (by simpa using hft)
    have hst : sizeOt t ≤ 999 := by simp [sizeOts] at hsz2; omega
    have HT := Lib.hid ((show TextOI t from HALL.out 0 (by simp)) _ w0 htt (by simpa using hft) (by omega) HTT.out)
    have HE : Hid (txtO (.mk 11 0 ⟨#[]⟩ [t]) = [109, 97, 112, 32] ++ txtO t) := Lib.hid (by rw [txtO_11]; rfl)
    generalize txtO t = T at *
    have hj1 : ¬ 9223372036854775807 < 4 + T.length := by omega
    have h0I : (0 : Int) < (([t] : List Ot).length : Int) := by simp
    clear hlt hft htt ha0
    go_wp2_with fail
    refine HT.out.mono ?_
    rintro e w1 ⟨rfl, hb1⟩
    go_wp2
    go_ret
    exact ⟨by rw [HE.out, lead_list]; rfl, HB.out.trans (hb1.mono HB.out.size)⟩
  · have hfa1 := HFA.out 0 (by simp)
    have hfb1 := HFA.out 1 (by simp)
    rcases hq0 with rfl | rfl
    · have HP := Lib.hid (pairText_any 12 0 ⟨#[]⟩ a b ⟨#[59]⟩ (by decide) (HALL.out 0 (by simp)) (HALL.out 1 (by simp)) (by simpa using hfa1) (by simpa using hfb1) (by simp [sizeOts] at hsz2; have := sizeOt_eq b; omega) (by simp [sizeOts] at hsz2; have := sizeOt_eq a; omega) _ w0 HV0.out HTT.out)
      have HE : Hid (txtO (.mk 12 0 ⟨#[]⟩ [a, b]) = 40 :: (txtO a ++ ((⟨#[59]⟩ : ByteArray).data.toList ++ (txtO b ++ [41])))) := Lib.hid (by rw [txtO_12]; rfl)
      clear hfa1 hfb1 ha0
      go_wp2_with fail
      refine HP.out.mono ?_
      rintro e w1 ⟨rfl, hb1⟩
      go_wp2
      go_ret
      exact ⟨by rw [HE.out]; rfl, HB.out.trans (hb1.mono HB.out.size)⟩
    · have HP := Lib.hid (pairText_any 13 0 ⟨#[]⟩ a b ⟨#[124]⟩ (by decide) (HALL.out 0 (by simp)) (HALL.out 1 (by simp)) (by simpa using hfa1) (by simpa using hfb1) (by simp [sizeOts] at hsz2; have := sizeOt_eq b; omega) (by simp [sizeOts] at hsz2; have := sizeOt_eq a; omega) _ w0 HV0.out HTT.out)
      have HE : Hid (txtO (.mk 13 0 ⟨#[]⟩ [a, b]) = 40 :: (txtO a ++ ((⟨#[124]⟩ : ByteArray).data.toList ++ (txtO b ++ [41])))) := Lib.hid (by rw [txtO_13]; rfl)
      clear hfa1 hfb1 ha0
      go_wp2_with fail
      refine HP.out.mono ?_
      rintro e w1 ⟨rfl, hb1⟩
      go_wp2
      go_ret
      exact ⟨by rw [HE.out]; rfl, HB.out.trans (hb1.mono HB.out.size)⟩

theorem implTextO_any (t : Ot) : TextOI t := by
  induction t using Ot.ind with
  | h k n nm ts ih => exact implTextO_of k n nm ts ih

set_option maxHeartbeats 1000000 in
theorem implFormatO_any (t : Ot) (v : Value) (w : World) (hv : OwnO w v t) (hsz : szOt t ≤ 1048576) (ht : TabO w) : Calls Tryd.prog 25 #[v] w (StrIs (formatOB t) w) := by
  have HX : opticB t = true → Hid (∀ W, Below w.heap.size w W → Calls Tryd.prog 60 #[v] W (StrIs ⟨(txtO t).toArray⟩ W)) := fun h => Lib.hid fun W hb => by
    obtain ⟨h1, _, h3⟩ := opticB_parts h
    exact implTextO_any t v W (hv.here.up hb) h3 (by omega) (ht.below hb)
  have hss := size_le_szO t
  have hv0 := hv
  obtain ⟨A, ac, rfl, _⟩ := hv.open
  obtain ⟨hb0, p0, hs0⟩ := boxes1 w 50 #[.int .i64 t.kind, .string t.name, .int .i64 t.num, .slice A t.args.length ac]
  have HV := Lib.hid (implIsOptic_any t _ _ (hv0.up hb0) (by omega))
  have c0 : (w.alloc (.cells #[.int .i64 t.kind, .string t.name, .int .i64 t.num, .slice A t.args.length ac] 50)).cell? ⟨w.heap.size, 0, none⟩ = some (.int .i64 t.kind) := p0.cell 0
  have c1 : (w.alloc (.cells #[.int .i64 t.kind, .string t.name, .int .i64 t.num, .slice A t.args.length ac] 50)).cell? ⟨w.heap.size, 1, none⟩ = some (.string t.name) := p0.cell 1
  have c2 : (w.alloc (.cells #[.int .i64 t.kind, .string t.name, .int .i64 t.num, .slice A t.args.length ac] 50)).cell? ⟨w.heap.size, 2, none⟩ = some (.int .i64 t.num) := p0.cell 2
  have c3 : (w.alloc (.cells #[.int .i64 t.kind, .string t.name, .int .i64 t.num, .slice A t.args.length ac] 50)).cell? ⟨w.heap.size, 3, none⟩ = some (.slice A t.args.length ac) := p0.cell 3
  clear hv hv0 hs0
  cases hvb : opticB t
  · rw [hvb] at HV
    have HE : Hid (formatOB t = ⟨#[]⟩) := Lib.hid (by unfold formatOB; rw [hvb]; rfl)
    clear HX hvb
    go_enter Tryd.func25, Tryd.ntmps25
    go_wp2_with fail
    generalize (w.alloc (.cells #[.int .i64 t.kind, .string t.name, .int .i64 t.num, .slice A t.args.length ac] 50)) = w0 at *
    refine HV.out.mono ?_
    rintro e w1 ⟨rfl, hb1⟩
    go_wp2
    go_ret
    exact ⟨by rw [HE.out]; rfl, hb0.trans (hb1.mono hb0.size)⟩
  · rw [hvb] at HV
    have HE : Hid (formatOB t = ⟨(txtO t).toArray⟩) := Lib.hid (by unfold formatOB; rw [hvb]; rfl)
    have HX2 := HX hvb
    clear HX hvb
    go_enter Tryd.func25, Tryd.ntmps25
    go_wp2_with fail
    generalize (w.alloc (.cells #[.int .i64 t.kind, .string t.name, .int .i64 t.num, .slice A t.args.length ac] 50)) = w0 at *
    refine HV.out.mono ?_
    rintro e w1 ⟨rfl, hb1⟩
    have hb01 := hb0.trans (hb1.mono hb0.size)
    have HX3 := Lib.hid (HX2.out w1 hb01)
    have p1 := p0.below hb1 p0.lt
    have d0 : w1.cell? ⟨w.heap.size, 0, none⟩ = some (.int .i64 t.kind) := p1.cell 0
    have d1 : w1.cell? ⟨w.heap.size, 1, none⟩ = some (.string t.name) := p1.cell 1
    have d2 : w1.cell? ⟨w.heap.size, 2, none⟩ = some (.int .i64 t.num) := p1.cell 2
    have d3 : w1.cell? ⟨w.heap.size, 3, none⟩ = some (.slice A t.args.length ac) := p1.cell 3
    clear p1 c0 c1 c2 c3
    go_wp2_with fail
    refine HX3.out.mono ?_
    rintro e w2 ⟨rfl, hb2⟩
    go_wp2
    go_ret
    exact ⟨by rw [HE.out]; rfl, hb01.trans (hb2.mono hb01.size)⟩

end Go.Proofs.YtlmbnefoobameaaDoor
