/- Lemmas: SpecCopy, DefVa, VCopyLib. -/
import Derived.Test.YtfnblkcmcfofoaaGreatDoorLawFoci_5
import Derived.Test.YtfnblkcmcfofoaaGreatDoorLawFoci_6
import Derived.Test.YtfnblkcmcfofoaaGreatDoorLawFoci_1
import Derived.Deep.RegionHeldLaw
import Derived.Deep.AppendLies
import Derived.Deep.DeepCutAuto
import Derived.Deep.DrawnRows
import Derived.Test.YtfnblkcmcfofoaaGreatDoorLawFoci_11

namespace Go.Proofs.YtfnblkcmcfofoaaGreatDoor
section
open Go.RowKit
attribute [local go_sem ↓] Go.wp_at_zero Go.wp_at_succ
theorem own_form {w:World} {base n:Nat} {v:Value} {xs:List Value} {ss:List ByteArray} (h:w.ownsRow base 9 1 v n xs) (hx:strVals ss=xs):∃ A c,v=.slice A ss.length c∧(ss=[]∨∃ g,A=some ⟨g,0,none⟩∧base≤g∧RowStrs w g ss):=by
 rcases RowStrs.of_own (own_strs h hx) with ⟨rfl,rfl⟩ | ⟨g,cap,rfl,h1,h2⟩
 ·exact ⟨none,0,rfl,.inl rfl⟩
 ·exact ⟨_,_,rfl,.inr ⟨g,rfl,h1,h2⟩⟩
theorem row_apart {w:World} {g po:Nat} {ss:List ByteArray} {cs:Array Value} (h:RowStrs w g ss) (hw:Whole1 w po 27 cs):po≠g:=by
 intro e
 subst e
 obtain ⟨c,h1,_⟩:=h
 unfold Whole1 at h1 hw
 rw [h1] at hw
 injection hw with hw
 injection hw with _ h2
 exact absurd h2 (by decide)
theorem copy_stored {w0 w1:World} {po c1:Nat} {A1:Option Addr} {k0:Int} {ls:List ByteArray} (hpo:w0.heap.size≤po) (hw:Whole1 w1 po 27 #[.int .i64 0,.slice none 0 0,.slice none 0 0]) (hrow:ls=[]∨∃ g,A1=some ⟨g,0,none⟩∧w0.heap.size≤g∧RowStrs w1 g ls) (hB:Below w0.heap.size w0 w1):
  ∃ (po' c:Nat) (A':Option Addr),Value.pointer (some ⟨po,0,none⟩)=.pointer (some ⟨po',0,none⟩)∧w0.heap.size≤po'∧Whole1 (((w1.setCell ⟨po,0,none⟩ (.int .i64 k0)).setCell ⟨po,1,none⟩ (.slice A1 ls.length c1)).setCell ⟨po,2,none⟩ (.slice none 0 0)) po' 27 #[.int .i64 k0,.slice A' ls.length c,.slice none 0 0]∧
   (ls=[]∨∃ g,A'=some ⟨g,0,none⟩∧w0.heap.size≤g∧po'≠g∧RowStrs (((w1.setCell ⟨po,0,none⟩ (.int .i64 k0)).setCell ⟨po,1,none⟩ (.slice A1 ls.length c1)).setCell ⟨po,2,none⟩ (.slice none 0 0)) g ls)∧
   Below w0.heap.size w0 (((w1.setCell ⟨po,0,none⟩ (.int .i64 k0)).setCell ⟨po,1,none⟩ (.slice A1 ls.length c1)).setCell ⟨po,2,none⟩ (.slice none 0 0)):=by
 refine ⟨po,c1,A1,rfl,hpo,((hw.set 0 _).set 1 _).set 2 _,hrow.imp id fun ⟨g,h1,h2,h3⟩=>⟨g,h1,h2,row_apart h3 hw,h3.same ?_⟩,((hB.setCell hpo _).setCell hpo _).setCell hpo _⟩
 have hne:=(row_apart h3 hw).symm
 rw [Below.heap_setCell _ _ _ _ hne,Below.heap_setCell _ _ _ _ hne,Below.heap_setCell _ _ _ _ hne]
theorem copy_new {w0 w1:World} {c1:Nat} {A1:Option Addr} {k0:Int} {ls:List ByteArray} (hrow:ls=[]∨∃ g,A1=some ⟨g,0,none⟩∧w0.heap.size≤g∧RowStrs w1 g ls) (hB:Below w0.heap.size w0 w1):
  ∃ (po' c:Nat) (A':Option Addr),Value.pointer (some ⟨w1.heap.size,0,none⟩)=.pointer (some ⟨po',0,none⟩)∧w0.heap.size≤po'∧Whole1 (w1.alloc (.cells #[.int .i64 k0,.slice A1 ls.length c1,.slice none 0 0] 27)) po' 27 #[.int .i64 k0,.slice A' ls.length c,.slice none 0 0]∧
   (ls=[]∨∃ g,A'=some ⟨g,0,none⟩∧w0.heap.size≤g∧po'≠g∧RowStrs (w1.alloc (.cells #[.int .i64 k0,.slice A1 ls.length c1,.slice none 0 0] 27)) g ls)∧
   Below w0.heap.size w0 (w1.alloc (.cells #[.int .i64 k0,.slice A1 ls.length c1,.slice none 0 0] 27)):=
 ⟨w1.heap.size,c1,A1,rfl,hB.size,Whole1.new _ _ _,hrow.imp id fun ⟨g,h1,h2,h3⟩=>⟨g,h1,h2,fun e=>by have:=h3.lt;omega,h3.below ((Below.refl _ _).alloc (Nat.le_refl _) _) h3.lt⟩,hB.alloc hB.size _⟩
theorem news3 (w:World) (t:TypeId) (a b c:Value) (h1:a.oneCell'=true:=by rfl) (h2:b.oneCell'=true:=by rfl) (h3:c.oneCell'=true:=by rfl):
  (∀ j u,[a,b,c][j]?=some u→(w.alloc (.cells #[a,b,c] t)).cell? ((⟨w.heap.size,0,none⟩:Addr).add j)=some u)∧∀ u ∈ [a,b,c],u.oneCell'=true:=by
 constructor
 ·intro j u hj
  rw [WideShapes.add_plain,World.cell?_alloc_at _ _ _ _ rfl,Nat.zero_add]
  simpa using hj
 ·intro u hu
  simp at hu
  rcases hu with rfl | rfl | rfl
  ·exact h1
  ·exact h2
  ·exact h3
theorem copy_rel {w wc wr w1 w3:World} {po k g cap c1 c2:Nat} {A1 A2:Option Addr} {k0:Int} {n:Nat} {ts:List Ty} {xs:List Value} {vs:Nat→Value} {lo hi:Nat→Nat} {a b c:Value} (hk:k<ts.length) (hol:po<wc.heap.size) (hpo:w.heap.size≤po) (hsz:wc.heap.size≤wr.heap.size)
  (hG:GatherAt wr wc.heap.size (.slice A2 k c2) k ts xs vs lo hi) (hb1:Below wr.heap.size wr w1) (ht:TyIn w1 (Span wr.heap.size w1.heap.size) (.agg #[a,b,c]) ts[k])
  (hown3:w3.ownsRow wc.heap.size 27 3 (.slice (some ⟨g,0,none⟩) (k+1) cap) (k+1) (xs++[a,b,c])) (hg3:(w1.alloc (.cells #[a,b,c] 27)).grownBy w3 (Value.slice A2 k c2).ownBlock) (hat3:(Value.slice A2 k c2).ownBlock=some g∨g=w1.heap.size+1)
  (ho3:Whole1 w3 po 27 #[.int .i64 k0,.slice A1 n c1,.slice A2 k c2]) (hold:∀ q,q<wc.heap.size→q≠po→wr.heap[q]?=wc.heap[q]?) (hb:Below w.heap.size w wr):
  Whole1 (w3.setCell ⟨po,2,none⟩ (.slice (some ⟨g,0,none⟩) (k+1) cap)) po 27 #[.int .i64 k0,.slice A1 n c1,.slice (some ⟨g,0,none⟩) (k+1) cap]∧Gather (w3.setCell ⟨po,2,none⟩ (.slice (some ⟨g,0,none⟩) (k+1) cap)) wc.heap.size (.slice (some ⟨g,0,none⟩) (k+1) cap) (k+1) ts∧
   (∀ q,q<wc.heap.size→q≠po→(w3.setCell ⟨po,2,none⟩ (.slice (some ⟨g,0,none⟩) (k+1) cap)).heap[q]?=wc.heap[q]?)∧Below w.heap.size w (w3.setCell ⟨po,2,none⟩ (.slice (some ⟨g,0,none⟩) (k+1) cap))∧wc.heap.size≤(w3.setCell ⟨po,2,none⟩ (.slice (some ⟨g,0,none⟩) (k+1) cap)).heap.size:=by
 have hs1:=hb1.size
 have hs3:=hg3.size
 simp only [World.size_alloc] at hs3
 have hw0:=hb.size
 have hvb:=fun q (hq:(Value.slice A2 k c2).ownBlock=some q)=>(hG.own.lt q hq).1
 refine ⟨ho3.set 2 _,(hG.step hb1 hsz hk ht hown3 hg3 hat3).set hol,fun q hq hqp=>?_,?_,?_⟩
 ·rw [Below.heap_setCell _ _ _ _ hqp,hg3.block q (by simp;omega) (fun e=>by have:=hvb q e.symm;omega),Below.heap_alloc _ _ _ (by omega),hb1.block q (by omega)]
  exact hold q hq hqp
 ·exact (((hb.trans (hb1.mono hw0)).alloc (by omega) _).grown hg3 (by simp;omega) (fun q hq=>by have:=hvb q hq;omega)).setCell hpo _
 ·show wc.heap.size≤(w3.setCell _ _).heap.size
  simp [World.setCell]
  omega
def CopyOne (t:Ty):Prop:=∀ (v:Value) (w:World),TyAt w w.heap.size v t→szTy t≤1048576→Calls Tryz.prog 144 #[v] w (NewTy w t)
set_option maxHeartbeats 4000000 in
theorem specCopy_of (k0:Int) (ls:List ByteArray) (ts:List Ty) (hall:∀ i,(h:i<ts.length)→CopyOne ts[i]):CopyOne (.mk k0 ls ts):=by
 intro v w hv hsz
 obtain ⟨i0,hi,hz0,hz1,hz2⟩:=info_parts infoString
 obtain ⟨L,lc,A,ac,rfl,hn,hz,hl,ha⟩:=hv.open
 rw [szTy_eq] at hsz
 simp only [Ty.kind,Ty.labels,Ty.args] at *
 have HALL:=Lib.hid hall
 have HN:=Lib.hid hz
 clear hall hz hv
 obtain ⟨hb0,p0,r0,hs0⟩:=boxes2 w 27 27 #[.int .i64 k0,.slice L ls.length lc,.slice A ts.length ac] #[.int .i64 0,.slice none 0 0,.slice none 0 0]
 go_enter Tryz.func144,Tryz.ntmps144
 go_upto_region 1 with fail
 generalize (w.alloc (.cells #[.int .i64 k0,.slice L ls.length lc,.slice A ts.length ac] 27)).alloc (.cells #[.int .i64 0,.slice none 0 0,.slice none 0 0] 27)=w0 at *
 have hl0:=hl.up' hb0
 have HZ:=Lib.hid hs0
 clear hs0 hl
 go_cut [3] (fun o wx=>∃ (po c:Nat) (A1:Option Addr),o=.pointer (some ⟨po,0,none⟩)∧w0.heap.size≤po∧Whole1 wx po 27 #[.int .i64 k0,.slice A1 ls.length c,.slice none 0 0]∧(ls=[]∨∃ g,A1=some ⟨g,0,none⟩∧w0.heap.size≤g∧po≠g∧RowStrs wx g ls)∧Below w0.heap.size w0 wx)
 case first=>
  have q0:w0.cell? ⟨w.heap.size,0,none⟩=some (.int .i64 k0):=p0.cell 0
  have q1:w0.cell? ⟨w.heap.size,1,none⟩=some (.slice L ls.length lc):=p0.cell 1
  have hpl:=p0.lt
  clear p0 r0
  have hE0b:Below w0.heap.size w0 (w0.alloc (.cells #[] 9)).drew:=((Below.refl _ _).alloc (Nat.le_refl _) _).drew
  have hE0:(w0.alloc (.cells #[] 9)).drew.ownsRow w0.heap.size 9 1 (.slice (some ⟨w0.heap.size,0,none⟩) 0 0) 0 []:=World.ownsRow_lit w0 #[] 0 (Nat.le_refl _) (Nat.zero_le _) rfl
  have hE1b:Below w0.heap.size w0 ((w0.alloc (.cells #[] 9)).alloc (.cells #[.int .i64 0,.slice none 0 0,.slice none 0 0] 27)).drew:=(((Below.refl _ _).alloc (Nat.le_refl _) _).alloc (by simp) _).drew
  have hE1:((w0.alloc (.cells #[] 9)).alloc (.cells #[.int .i64 0,.slice none 0 0,.slice none 0 0] 27)).drew.ownsRow w0.heap.size 9 1 (.slice (some ⟨w0.heap.size,0,none⟩) 0 0) 0 []:=World.ownsRow.alloc (World.ownsRow_lit w0 #[] 0 (Nat.le_refl _) (Nat.zero_le _) rfl) _
  have hE2b:Below w0.heap.size w0 ((w0.alloc (.cells #[.int .i64 0,.slice none 0 0,.slice none 0 0] 27)).alloc (.cells #[] 9)).drew:=(((Below.refl _ _).alloc (Nat.le_refl _) _).alloc (by simp) _).drew
  have hE2:((w0.alloc (.cells #[.int .i64 0,.slice none 0 0,.slice none 0 0] 27)).alloc (.cells #[] 9)).drew.ownsRow w0.heap.size 9 1 (.slice (some ⟨w0.heap.size+1,0,none⟩) 0 0) 0 []:=by
   have:=World.ownsRow_lit (base:=w0.heap.size) (e:=9) (size:=1) (w0.alloc (.cells #[.int .i64 0,.slice none 0 0,.slice none 0 0] 27)) #[] 0 (by simp) (Nat.zero_le _) rfl
   rw [show (w0.alloc (.cells #[.int .i64 0,.slice none 0 0,.slice none 0 0] 27)).heap.size=w0.heap.size+1 by simp] at this
   exact this
  have hE1w:Whole1 ((w0.alloc (.cells #[] 9)).alloc (.cells #[.int .i64 0,.slice none 0 0,.slice none 0 0] 27)).drew (w0.heap.size+1) 27 #[.int .i64 0,.slice none 0 0,.slice none 0 0]:=by
   have:=Whole1.new (w0.alloc (.cells #[] 9)) 27 #[.int .i64 0,.slice none 0 0,.slice none 0 0]
   rw [show (w0.alloc (.cells #[] 9)).heap.size=w0.heap.size+1 by simp] at this
   exact this
  have hE2w:Whole1 ((w0.alloc (.cells #[.int .i64 0,.slice none 0 0,.slice none 0 0] 27)).alloc (.cells #[] 9)).drew w0.heap.size 27 #[.int .i64 0,.slice none 0 0,.slice none 0 0]:=by
   have:=Whole1.new w0 27 #[.int .i64 0,.slice none 0 0,.slice none 0 0]
   exact Whole1.below (B:=w0.heap.size+1) this ((Below.refl _ _).alloc (show w0.heap.size+1≤(w0.alloc (.cells #[.int .i64 0,.slice none 0 0,.slice none 0 0] 27)).heap.size by simp) _).drew (by omega)
  go_region_held_law (fun w'=>w'.cell? ⟨w.heap.size,0,none⟩=some (.int .i64 k0)∧w'.cell? ⟨w.heap.size,1,none⟩=some (.slice L ls.length lc)) (first | (with_reducible exact ⟨q0,q1⟩) | (with_reducible exact ⟨hk0,hk1⟩) | (with_reducible exact ⟨hk2 _,hk3 _⟩) | (with_reducible exact ⟨hk4 _ _ _,hk5 _ _ _⟩) | (with_reducible exact ⟨kC hE0b q0 hpl,kC hE0b q1 hpl⟩) | (with_reducible exact ⟨kC hE1b q0 hpl,kC hE1b q1 hpl⟩) | (with_reducible exact ⟨kC hE2b q0 hpl,kC hE2b q1 hpl⟩) | go_keep)
   (first
    | (refine step_append_cells _ (by rfl) (.tmp 7) (.tmp 9) _ (by rfl) w0.heap.size 9 i0 (.string ⟨#[]⟩) 1 16 Tryz.underlying24 hi hz0 hz1 hz2 rfl (by decide) _ 0 [] (by rfl) hE0 L ls.length lc (strVals ls) (by rfl) (by simp [strVals]) (hl0.up' hE0b).cells (strVals_one _) (by unfold maxLen;omega) (by omega) hE0b.size ?_;intro v1 w1 hown1 hg1;obtain ⟨A1,c1,rfl,hrow⟩:=own_form (ss:=ls) hown1 (by simp);have hB1:=hE0b.grown hg1 hE0b.size (fun q hq=>(hE0.lt q hq).1);have hk0:=(kC hB1 q0 hpl);have hk1:=(kC hB1 q1 hpl);have hk2:=fun o=>((hB1.alloc hB1.size o).cell (p:=⟨w.heap.size,0,none⟩) hpl).trans q0;have hk3:=fun o=>((hB1.alloc hB1.size o).cell (p:=⟨w.heap.size,1,none⟩) hpl).trans q1)
    | (refine step_append_cells _ (by rfl) (.tmp 7) (.tmp 9) _ (by rfl) w0.heap.size 9 i0 (.string ⟨#[]⟩) 1 16 Tryz.underlying24 hi hz0 hz1 hz2 rfl (by decide) _ 0 [] (by rfl) hE1 L ls.length lc (strVals ls) (by rfl) (by simp [strVals]) (hl0.up' hE1b).cells (strVals_one _) (by unfold maxLen;omega) (by omega) hE1b.size ?_;intro v1 w1 hown1 hg1;obtain ⟨A1,c1,rfl,hrow⟩:=own_form (ss:=ls) hown1 (by simp);have hB1:=hE1b.grown hg1 hE1b.size (fun q hq=>(hE1.lt q hq).1);have hk0:=(kC hB1 q0 hpl);have hk1:=(kC hB1 q1 hpl);have hk2:=fun o=>((hB1.alloc hB1.size o).cell (p:=⟨w.heap.size,0,none⟩) hpl).trans q0;have hk3:=fun o=>((hB1.alloc hB1.size o).cell (p:=⟨w.heap.size,1,none⟩) hpl).trans q1;have hw:Whole1 w1 (w0.heap.size+1) 27 #[.int .i64 0,.slice none 0 0,.slice none 0 0]:=(hg1.block (w0.heap.size+1) (by simp) (by simp [Value.ownBlock])).trans hE1w;obtain ⟨m0,m1,m2⟩:=hw.c3;obtain ⟨f0,f1,f2⟩:=hw.f3;have hk4:=fun u0 u1 u2=>((((hB1.setCell (p:=⟨w0.heap.size+1,0,none⟩) (by simp) u0).setCell (p:=⟨w0.heap.size+1,1,none⟩) (by simp) u1).setCell (p:=⟨w0.heap.size+1,2,none⟩) (by simp) u2).cell (p:=⟨w.heap.size,0,none⟩) hpl).trans q0;have hk5:=fun u0 u1 u2=>((((hB1.setCell (p:=⟨w0.heap.size+1,0,none⟩) (by simp) u0).setCell (p:=⟨w0.heap.size+1,1,none⟩) (by simp) u1).setCell (p:=⟨w0.heap.size+1,2,none⟩) (by simp) u2).cell (p:=⟨w.heap.size,1,none⟩) hpl).trans q1)
    | (refine step_append_cells _ (by rfl) (.tmp 7) (.tmp 9) _ (by rfl) w0.heap.size 9 i0 (.string ⟨#[]⟩) 1 16 Tryz.underlying24 hi hz0 hz1 hz2 rfl (by decide) _ 0 [] (by rfl) hE2 L ls.length lc (strVals ls) (by rfl) (by simp [strVals]) (hl0.up' hE2b).cells (strVals_one _) (by unfold maxLen;omega) (by omega) hE2b.size ?_;intro v1 w1 hown1 hg1;obtain ⟨A1,c1,rfl,hrow⟩:=own_form (ss:=ls) hown1 (by simp);have hB1:=hE2b.grown hg1 hE2b.size (fun q hq=>(hE2.lt q hq).1);have hk0:=(kC hB1 q0 hpl);have hk1:=(kC hB1 q1 hpl);have hk2:=fun o=>((hB1.alloc hB1.size o).cell (p:=⟨w.heap.size,0,none⟩) hpl).trans q0;have hk3:=fun o=>((hB1.alloc hB1.size o).cell (p:=⟨w.heap.size,1,none⟩) hpl).trans q1;have hw:Whole1 w1 (w0.heap.size) 27 #[.int .i64 0,.slice none 0 0,.slice none 0 0]:=(hg1.block (w0.heap.size) (by simp;omega) (by simp [Value.ownBlock])).trans hE2w;obtain ⟨m0,m1,m2⟩:=hw.c3;obtain ⟨f0,f1,f2⟩:=hw.f3;have hk4:=fun u0 u1 u2=>((((hB1.setCell (p:=⟨w0.heap.size,0,none⟩) (by simp) u0).setCell (p:=⟨w0.heap.size,1,none⟩) (by simp) u1).setCell (p:=⟨w0.heap.size,2,none⟩) (by simp) u2).cell (p:=⟨w.heap.size,0,none⟩) hpl).trans q0;have hk5:=fun u0 u1 u2=>((((hB1.setCell (p:=⟨w0.heap.size,0,none⟩) (by simp) u0).setCell (p:=⟨w0.heap.size,1,none⟩) (by simp) u1).setCell (p:=⟨w0.heap.size,2,none⟩) (by simp) u2).cell (p:=⟨w.heap.size,1,none⟩) hpl).trans q1))
  all_goals go_wp2
  all_goals go_meet
  all_goals first | exact copy_new hrow hB1 | exact copy_stored (by omega) hw hrow hB1
 case rest=>
  obtain ⟨po,c1,A1,rfl,hpo,ho0,hrow,hbc⟩:=hcut
  have p1:=p0.below hbc p0.lt
  have r1:=r0.below hbc r0.lt
  have hb1:=hb0.trans (hbc.mono hb0.size)
  have ha1:=ha.up hb1
  have hpl:w.heap.size<wc.heap.size:=p1.lt
  have hrl:w.heap.size+1<wc.heap.size:=r1.lt
  have hol:po<wc.heap.size:=ho0.lt
  have hpo':w.heap.size+2≤po:=by have:=HZ.out;omega
  have HROW:=Lib.hid hrow
  have hm:=ha1.1
  have hmn:=Lib.hid hm
  have hle:=szTys_len ts
  obtain ⟨i1,hi1,hy0,hy1,hy2⟩:=info_parts infoType
  clear p0 r0 hl0 hrow hm
  go_wp2
  go_loopw [4] (fun i wr=>∃ (k:Nat) (c2:Nat) (A2:Option Addr),k≤ts.length∧i=.int .i64 k∧Whole1 wr po 27 #[.int .i64 k0,.slice A1 ls.length c1,.slice A2 k c2]∧Gather wr wc.heap.size (.slice A2 k c2) k ts∧(∀ q,q<wc.heap.size→q≠po→wr.heap[q]?=wc.heap[q]?)∧Below w.heap.size w wr∧wc.heap.size≤wr.heap.size) (fun i _=>ts.length - (intOf i).toNat)
  case atStart=>exact ⟨0,0,none,Nat.zero_le _,rfl,ho0,Gather.start _ _ _,fun _ _ _=>rfl,hb1,Nat.le_refl _⟩
  case round=>
   obtain ⟨k,c2,A2,hk,rfl,ho,hga,hold,hb,hsz1⟩:=hrel
   have HOLD:=Lib.hid hold
   have p2:Whole1 wr w.heap.size 27 #[.int .i64 k0,.slice L ls.length lc,.slice A ts.length ac]:=(hold _ hpl (by omega)).trans p1
   have q2:wr.cell? ⟨w.heap.size,2,none⟩=some (.slice A ts.length ac):=p2.cell 2
   clear hold
   by_cases hlt:k<ts.length
   ·obtain ⟨xs,vs,lo,hi',hG⟩:=hga
    obtain ⟨b,off,M,mc,C,cc,rfl,hbl,e0,e1,e2,_,_,_,_,ht⟩:=(ha.below hb).elem k hlt
    have hpt:=szTy_part ts k hlt
    have hbs:=hb.size
    have HT:=Lib.hid (HALL.out k hlt _ wr.drew ((ht.more hbs).up (Below.refl _ _).drew) (by omega))
    have HG:=Lib.hid hG
    have HO:=Lib.hid ho
    have o2:wr.cell? ⟨po,2,none⟩=some (.slice A2 k c2):=ho.cell 2
    have f2:wr.frozen? ⟨po,2,none⟩=false:=ho.free 2
    have hbw:b<wr.heap.size:=by omega
    have hpw:w.heap.size<wr.heap.size:=by omega
    have how:po<wr.heap.size:=by omega
    have hown0:=hG.own
    have HOWN:=Lib.hid hown0
    clear hG ho ht p2 hown0
    go_wp2
    go_region_law (first
     | (go_simp;go_at_call 144;refine HT.out.mono ?_;rintro e w1 ⟨v1,rfl,ht1,hb1⟩;have HT1:=Lib.hid ht1;obtain ⟨T1,U1,T2,U2,_,rfl,_⟩:=ht1.open;clear ht1;have hb1':=(Below.refl wr.heap.size wr).drew.trans hb1;have y2:=(kC hb1' o2 how);have y3:=((hb1'.alloc hb1'.size (.cells #[.int .i64 ts[k].kind,.slice T1 ts[k].labels.length U1,.slice T2 ts[k].args.length U2] 27)).cell (p:=⟨po,2,none⟩) how).trans o2;have hown2:=World.ownsRow.alloc (own_keep HOWN.out (fun g hg=>hb1'.block g (HOWN.out.lt g hg).2)) (.cells #[.int .i64 ts[k].kind,.slice T1 ts[k].labels.length U1,.slice T2 ts[k].args.length U2] 27);have hnews:=news3 w1 27 (.int .i64 ts[k].kind) (.slice T1 ts[k].labels.length U1) (.slice T2 ts[k].args.length U2))
     | (refine step_append_lies _ (by rfl) (.tmp 20) (.tmp 27) _ (by rfl) wc.heap.size 27 i1 (.agg #[.int .i64 0,.slice none 0 0,.slice none 0 0]) 3 56 Tryz.underlying25 hi1 hy0 hy1 hy2 rfl (by decide) _ k xs (by rfl) hown2 ⟨w1.heap.size,0,none⟩ 1 1 [.int .i64 ts[k].kind,.slice T1 ts[k].labels.length U1,.slice T2 ts[k].args.length U2] (by rfl) rfl hnews.1 hnews.2 (by omega) (by unfold maxLen;omega) (by omega) (by have:=hb1'.size;simp;omega) (w1.heap.size+1) (by simp) ?_;intro g cap w3 hown3 hg3 hat3 hlt3;have hvb:=fun q (hq:(Value.slice A2 k c2).ownBlock=some q)=>(HOWN.out.lt q hq).1;have ho3:Whole1 w3 po 27 #[.int .i64 k0,.slice A1 ls.length c1,.slice A2 k c2]:=((hg3.block po (by have:=hb1'.size;simp;omega) (fun e=>by have:=hvb po e.symm;omega)).trans (Below.heap_alloc _ _ _ (by have:=hb1'.size;omega))).trans ((hb1'.block po how).trans HO.out);have m2:w3.cell? ⟨po,2,none⟩=some (.slice A2 k c2):=ho3.cell 2;have n2:w3.frozen? ⟨po,2,none⟩=false:=ho3.free 2))
    all_goals
     go_wp2
     go_roundw
     case rel=>exact ⟨k+1,cap,some ⟨g,0,none⟩,by omega,by go_num,copy_rel hlt hol (by omega) hsz1 HG.out hb1' HT1.out hown3 hg3 hat3 ho3 HOLD.out hb⟩
     case measure=>simp [intOf];omega
   ·have hke:k=ts.length:=by omega
    subst hke
    have r2:Whole1 wr (w.heap.size+1) 27 #[.int .i64 0,.slice none 0 0,.slice none 0 0]:=(HOLD.out _ hrl (by omega)).trans r1
    obtain ⟨o0,o1,o2⟩:=ho.c3
    obtain ⟨d0,d1,d2⟩:=r2.c3
    obtain ⟨e0,e1,e2⟩:=r2.f3
    have hdone:=hga.done hmn.out
    have HD:=Lib.hid hdone
    clear p2 r2 ho hga hdone q2
    have q2:wr.cell? ⟨w.heap.size,2,none⟩=some (.slice A ts.length ac):=by
     have:Whole1 wr w.heap.size 27 #[.int .i64 k0,.slice L ls.length lc,.slice A ts.length ac]:=(HOLD.out _ hpl (by omega)).trans p1
     exact this.cell 2
    go_wp2
    refine bodyPost_ret (v:=.agg #[.int .i64 k0,.slice A1 ls.length c1,.slice A2 ts.length c2]) (by simp [results,Tryz.results144,go_sem,d0,d1,d2]) rfl ⟨_,rfl,?_,?_⟩
    ·have hk':∀ q,q≠w.heap.size+1→(((wr.setCell ⟨w.heap.size+1,0,none⟩ (.int .i64 k0)).setCell ⟨w.heap.size+1,1,none⟩ (.slice A1 ls.length c1)).setCell ⟨w.heap.size+1,2,none⟩ (.slice A2 ts.length c2)).heap[q]?=wr.heap[q]?:=fun q hq=>by
      rw [Below.heap_setCell _ _ _ _ hq,Below.heap_setCell _ _ _ _ hq,Below.heap_setCell _ _ _ _ hq]
     have hS:(((wr.setCell ⟨w.heap.size+1,0,none⟩ (.int .i64 k0)).setCell ⟨w.heap.size+1,1,none⟩ (.slice A1 ls.length c1)).setCell ⟨w.heap.size+1,2,none⟩ (.slice A2 ts.length c2)).heap.size=wr.heap.size:=by simp [World.setCell]
     rw [hS]
     have hD2:=HD.out.keep (w':=((wr.setCell ⟨w.heap.size+1,0,none⟩ (.int .i64 k0)).setCell ⟨w.heap.size+1,1,none⟩ (.slice A1 ls.length c1)).setCell ⟨w.heap.size+1,2,none⟩ (.slice A2 ts.length c2)) fun b hb' _=>hk' b (by have:=hb'.1;omega)
     have hzz:=HZ.out
     rcases HROW.out with hl0 | ⟨g,hA1,hg0,hgp,hrg⟩
     ·exact TyIn.of (t:=.mk k0 ls ts) (gl:=0) hn HN.out (.inl hl0) hD2 fun b hb'=>⟨⟨by have:=hb'.1;omega,hb'.2⟩,by have:=hb'.1;omega⟩
     ·have hgl:=hrg.lt
      exact TyIn.of (t:=.mk k0 ls ts) (gl:=g) hn HN.out (.inr ⟨hA1,⟨by omega,by omega⟩,(hrg.same (HOLD.out g hgl fun e=>hgp e.symm)).same (hk' g (by omega))⟩) hD2 fun b hb'=>⟨⟨by have:=hb'.1;omega,hb'.2⟩,by have:=hb'.1;omega⟩
    ·exact ((hb.setCell (by simp) _).setCell (by simp) _).setCell (by simp) _
theorem specCopy_any (t:Ty):CopyOne t:=by
 induction t using Ty.ind with
 | h k ls ts ih=>exact specCopy_of k ls ts ih
end
section
set_option maxRecDepth 100000
open Go.RowKit
attribute [local go_sem ↓] Go.wp_at_zero Go.wp_at_succ
theorem VasIn.nil (w:World) (S:Nat→Prop) (A:Option Addr):VasIn w S A []:=⟨Nat.zero_le _,0,fun _=>.bool false,fun _ _=>False,.inl rfl,fun i h=>absurd h (by simp),fun i _ h=>absurd h (by simp),fun i h=>absurd h (by simp)⟩
theorem VaIn.leaf (w:World) (S:Nat→Prop) (k n:Int) (nm:ByteArray) (L A:Option Addr) (lc ac:Nat) (h:nm.size≤maxLen):VaIn w S (.agg #[.int .i64 k,.int .i64 n,.string nm,.slice L 0 lc,.slice A 0 ac]) (.mk k n nm [] []):=
 VaIn.of (t:=.mk k n nm [] []) (gl:=0) (Sa:=fun _=>False) h (Nat.zero_le _) (fun i h=>absurd h (by simp [Va.labels])) (.inl rfl) (VasIn.nil w _ A) (fun b hb=>hb.elim)
end
section
open Go.RowKit
theorem vrow_apart {w:World} {g po:Nat} {ss:List ByteArray} {cs:Array Value} (h:RowStrs w g ss) (hw:Whole1 w po 41 cs):po≠g:=by
 intro e
 subst e
 obtain ⟨c,h1,_⟩:=h
 unfold Whole1 at h1 hw
 rw [h1] at hw
 injection hw with hw
 injection hw with _ h2
 exact absurd h2 (by decide)
theorem vcopy_stored {w0 w1:World} {po c1:Nat} {A1:Option Addr} {k0 n0:Int} {nm:ByteArray} {ls:List ByteArray} (hpo:w0.heap.size≤po) (hw:Whole1 w1 po 41 #[.int .i64 0,.int .i64 0,.string ⟨#[]⟩,.slice none 0 0,.slice none 0 0]) (hrow:ls=[]∨∃ g,A1=some ⟨g,0,none⟩∧w0.heap.size≤g∧RowStrs w1 g ls) (hB:Below w0.heap.size w0 w1):
  ∃ (po' c:Nat) (A':Option Addr),Value.pointer (some ⟨po,0,none⟩)=.pointer (some ⟨po',0,none⟩)∧w0.heap.size≤po'∧Whole1 (((((w1.setCell ⟨po,0,none⟩ (.int .i64 k0)).setCell ⟨po,1,none⟩ (.int .i64 n0)).setCell ⟨po,2,none⟩ (.string nm)).setCell ⟨po,3,none⟩ (.slice A1 ls.length c1)).setCell ⟨po,4,none⟩ (.slice none 0 0)) po' 41 #[.int .i64 k0,.int .i64 n0,.string nm,.slice A' ls.length c,.slice none 0 0]∧
   (ls=[]∨∃ g,A'=some ⟨g,0,none⟩∧w0.heap.size≤g∧po'≠g∧RowStrs (((((w1.setCell ⟨po,0,none⟩ (.int .i64 k0)).setCell ⟨po,1,none⟩ (.int .i64 n0)).setCell ⟨po,2,none⟩ (.string nm)).setCell ⟨po,3,none⟩ (.slice A1 ls.length c1)).setCell ⟨po,4,none⟩ (.slice none 0 0)) g ls)∧
   Below w0.heap.size w0 (((((w1.setCell ⟨po,0,none⟩ (.int .i64 k0)).setCell ⟨po,1,none⟩ (.int .i64 n0)).setCell ⟨po,2,none⟩ (.string nm)).setCell ⟨po,3,none⟩ (.slice A1 ls.length c1)).setCell ⟨po,4,none⟩ (.slice none 0 0)):=by
 refine ⟨po,c1,A1,rfl,hpo,((((hw.set 0 _).set 1 _).set 2 _).set 3 _).set 4 _,hrow.imp id fun ⟨g,h1,h2,h3⟩=>⟨g,h1,h2,vrow_apart h3 hw,h3.same ?_⟩,((((hB.setCell hpo _).setCell hpo _).setCell hpo _).setCell hpo _).setCell hpo _⟩
 have hne:=(vrow_apart h3 hw).symm
 rw [Below.heap_setCell _ _ _ _ hne,Below.heap_setCell _ _ _ _ hne,Below.heap_setCell _ _ _ _ hne,Below.heap_setCell _ _ _ _ hne,Below.heap_setCell _ _ _ _ hne]
theorem vcopy_new {w0 w1:World} {c1:Nat} {A1:Option Addr} {k0 n0:Int} {nm:ByteArray} {ls:List ByteArray} (hrow:ls=[]∨∃ g,A1=some ⟨g,0,none⟩∧w0.heap.size≤g∧RowStrs w1 g ls) (hB:Below w0.heap.size w0 w1):
  ∃ (po' c:Nat) (A':Option Addr),Value.pointer (some ⟨w1.heap.size,0,none⟩)=.pointer (some ⟨po',0,none⟩)∧w0.heap.size≤po'∧Whole1 (w1.alloc (.cells #[.int .i64 k0,.int .i64 n0,.string nm,.slice A1 ls.length c1,.slice none 0 0] 41)) po' 41 #[.int .i64 k0,.int .i64 n0,.string nm,.slice A' ls.length c,.slice none 0 0]∧
   (ls=[]∨∃ g,A'=some ⟨g,0,none⟩∧w0.heap.size≤g∧po'≠g∧RowStrs (w1.alloc (.cells #[.int .i64 k0,.int .i64 n0,.string nm,.slice A1 ls.length c1,.slice none 0 0] 41)) g ls)∧
   Below w0.heap.size w0 (w1.alloc (.cells #[.int .i64 k0,.int .i64 n0,.string nm,.slice A1 ls.length c1,.slice none 0 0] 41)):=
 ⟨w1.heap.size,c1,A1,rfl,hB.size,Whole1.new _ _ _,hrow.imp id fun ⟨g,h1,h2,h3⟩=>⟨g,h1,h2,fun e=>by have:=h3.lt;omega,h3.below ((Below.refl _ _).alloc (Nat.le_refl _) _) h3.lt⟩,hB.alloc hB.size _⟩
theorem news5 (w:World) (t:TypeId) (a b c d e:Value) (h1:a.oneCell'=true:=by rfl) (h2:b.oneCell'=true:=by rfl) (h3:c.oneCell'=true:=by rfl) (h4:d.oneCell'=true:=by rfl) (h5:e.oneCell'=true:=by rfl):
  (∀ j u,[a,b,c,d,e][j]?=some u→(w.alloc (.cells #[a,b,c,d,e] t)).cell? ((⟨w.heap.size,0,none⟩:Addr).add j)=some u)∧∀ u ∈ [a,b,c,d,e],u.oneCell'=true:=by
 constructor
 ·intro j u hj
  rw [WideShapes.add_plain,World.cell?_alloc_at _ _ _ _ rfl,Nat.zero_add]
  simpa using hj
 ·intro u hu
  simp at hu
  rcases hu with rfl | rfl | rfl | rfl | rfl
  ·exact h1
  ·exact h2
  ·exact h3
  ·exact h4
  ·exact h5
theorem vcopy_rel {w wc wr w1 w3:World} {po k g cap c1 c2:Nat} {A1 A2:Option Addr} {k0 n0:Int} {nm:ByteArray} {n:Nat} {ts:List Va} {xs:List Value} {vs:Nat→Value} {lo hi:Nat→Nat} {a b c d e:Value} (hk:k<ts.length) (hol:po<wc.heap.size) (hpo:w.heap.size≤po) (hsz:wc.heap.size≤wr.heap.size)
  (hG:VGatherAt wr wc.heap.size (.slice A2 k c2) k ts xs vs lo hi) (hb1:Below wr.heap.size wr w1) (ht:VaIn w1 (Span wr.heap.size w1.heap.size) (.agg #[a,b,c,d,e]) ts[k])
  (hown3:w3.ownsRow wc.heap.size 41 5 (.slice (some ⟨g,0,none⟩) (k+1) cap) (k+1) (xs++[a,b,c,d,e])) (hg3:(w1.alloc (.cells #[a,b,c,d,e] 41)).grownBy w3 (Value.slice A2 k c2).ownBlock) (hat3:(Value.slice A2 k c2).ownBlock=some g∨g=w1.heap.size+1)
  (ho3:Whole1 w3 po 41 #[.int .i64 k0,.int .i64 n0,.string nm,.slice A1 n c1,.slice A2 k c2]) (hold:∀ q,q<wc.heap.size→q≠po→wr.heap[q]?=wc.heap[q]?) (hb:Below w.heap.size w wr):
  Whole1 (w3.setCell ⟨po,4,none⟩ (.slice (some ⟨g,0,none⟩) (k+1) cap)) po 41 #[.int .i64 k0,.int .i64 n0,.string nm,.slice A1 n c1,.slice (some ⟨g,0,none⟩) (k+1) cap]∧VGather (w3.setCell ⟨po,4,none⟩ (.slice (some ⟨g,0,none⟩) (k+1) cap)) wc.heap.size (.slice (some ⟨g,0,none⟩) (k+1) cap) (k+1) ts∧
   (∀ q,q<wc.heap.size→q≠po→(w3.setCell ⟨po,4,none⟩ (.slice (some ⟨g,0,none⟩) (k+1) cap)).heap[q]?=wc.heap[q]?)∧Below w.heap.size w (w3.setCell ⟨po,4,none⟩ (.slice (some ⟨g,0,none⟩) (k+1) cap))∧wc.heap.size≤(w3.setCell ⟨po,4,none⟩ (.slice (some ⟨g,0,none⟩) (k+1) cap)).heap.size:=by
 have hs1:=hb1.size
 have hs3:=hg3.size
 simp only [World.size_alloc] at hs3
 have hw0:=hb.size
 have hvb:=fun q (hq:(Value.slice A2 k c2).ownBlock=some q)=>(hG.own.lt q hq).1
 refine ⟨ho3.set 4 _,(hG.step hb1 hsz hk ht hown3 hg3 hat3).set hol,fun q hq hqp=>?_,?_,?_⟩
 ·rw [Below.heap_setCell _ _ _ _ hqp,hg3.block q (by simp;omega) (fun e=>by have:=hvb q e.symm;omega),Below.heap_alloc _ _ _ (by omega),hb1.block q (by omega)]
  exact hold q hq hqp
 ·exact (((hb.trans (hb1.mono hw0)).alloc (by omega) _).grown hg3 (by simp;omega) (fun q hq=>by have:=hvb q hq;omega)).setCell hpo _
 ·show wc.heap.size≤(w3.setCell _ _).heap.size
  simp [World.setCell]
  omega
end
end Go.Proofs.YtfnblkcmcfofoaaGreatDoor
