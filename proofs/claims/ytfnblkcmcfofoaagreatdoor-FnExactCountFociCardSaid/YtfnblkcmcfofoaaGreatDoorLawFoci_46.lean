/- Lemmas: SpecCopyVa. -/
import Derived.Test.YtfnblkcmcfofoaaGreatDoorLawFoci_13
import Derived.Test.YtfnblkcmcfofoaaGreatDoorLawFoci_6
import Derived.Deep.DeepCutAuto
import Derived.Deep.DrawnRows

namespace Go.Proofs.YtfnblkcmcfofoaaGreatDoor
set_option maxRecDepth 100000
open Go.RowKit
attribute [local go_sem ↓] Go.wp_at_zero Go.wp_at_succ
def CopyVOne (t:Va):Prop:=∀ (v:Value) (w:World),VaAt w w.heap.size v t→szVa t≤1048576→Calls Tryz.prog 128 #[v] w (NewVa w t)
set_option maxHeartbeats 24000000 in
theorem specCopyV_of (k0 n0:Int) (nm:ByteArray) (ls:List ByteArray) (ts:List Va) (hall0:∀ i,(h:i<ts.length)→CopyVOne ts[i]):CopyVOne (.mk k0 n0 nm ls ts):=by
 intro v w hv hsz
 have hse:=szVa_eq (.mk k0 n0 nm ls ts)
 obtain ⟨L,lc,A,ac,rfl,hnm,hn,hz,hl,ha⟩:=hv.open
 simp only [Va.kind,Va.num,Va.name,Va.labels,Va.args] at *
 have hall:∀ i,(h:i<ts.length)→∀ (v:Value) (W:World),VaAt W W.heap.size v ts[i]→Calls Tryz.prog 128 #[v] W (NewVa W ts[i]):=fun i h v W h2=>hall0 i h v W h2 (by have:=szVa_part ts i h;omega)
 have HALL:=Lib.hid hall
 have HN:=Lib.hid hz
 clear hall hz hv hall0
 have HRL:=Lib.hid (fun k (hk:k<ts.length)=>hk)
 have HRN:=Lib.hid (rfl:ts.length=ts.length)
 have HNM:=Lib.hid hnm
 have hle:ts.length≤1048576:=by have:=szVas_len ts;omega
 obtain ⟨i0,hi,hz0,hz1,hz2⟩:=info_parts infoString
 obtain ⟨hb0,p0,r0,hs0⟩:=boxes2 w 41 41 #[.int .i64 k0,.int .i64 n0,.string nm,.slice L ls.length lc,.slice A ts.length ac] #[.int .i64 0,.int .i64 0,.string ⟨#[]⟩,.slice none 0 0,.slice none 0 0]
 go_enter Tryz.func128,Tryz.ntmps128
 go_upto_region 1 with fail
 generalize (w.alloc (.cells #[.int .i64 k0,.int .i64 n0,.string nm,.slice L ls.length lc,.slice A ts.length ac] 41)).alloc (.cells #[.int .i64 0,.int .i64 0,.string ⟨#[]⟩,.slice none 0 0,.slice none 0 0] 41)=w0 at *
 have hl0:=hl.up' hb0
 have HZ:=Lib.hid hs0
 clear hs0 hl
 go_cut [3] (fun o wx=>∃ (po c:Nat) (A1:Option Addr),o=.pointer (some ⟨po,0,none⟩)∧w0.heap.size≤po∧Whole1 wx po 41 #[.int .i64 k0,.int .i64 n0,.string nm,.slice A1 ls.length c,.slice none 0 0]∧(ls=[]∨∃ g,A1=some ⟨g,0,none⟩∧w0.heap.size≤g∧po≠g∧RowStrs wx g ls)∧Below w0.heap.size w0 wx)
 case first=>
  obtain ⟨q0,q1,q2,q3,-⟩:=p0.c5
  have hpl:=p0.lt
  clear p0 r0
  have hE0b:Below w0.heap.size w0 (w0.alloc (.cells #[] 9)).drew:=((Below.refl _ _).alloc (Nat.le_refl _) _).drew
  have hE0:(w0.alloc (.cells #[] 9)).drew.ownsRow w0.heap.size 9 1 (.slice (some ⟨w0.heap.size,0,none⟩) 0 0) 0 []:=World.ownsRow_lit w0 #[] 0 (Nat.le_refl _) (Nat.zero_le _) rfl
  have hE1b:Below w0.heap.size w0 ((w0.alloc (.cells #[] 9)).alloc (.cells #[.int .i64 0,.int .i64 0,.string ⟨#[]⟩,.slice none 0 0,.slice none 0 0] 41)).drew:=(((Below.refl _ _).alloc (Nat.le_refl _) _).alloc (by simp) _).drew
  have hE1:((w0.alloc (.cells #[] 9)).alloc (.cells #[.int .i64 0,.int .i64 0,.string ⟨#[]⟩,.slice none 0 0,.slice none 0 0] 41)).drew.ownsRow w0.heap.size 9 1 (.slice (some ⟨w0.heap.size,0,none⟩) 0 0) 0 []:=World.ownsRow.alloc (World.ownsRow_lit w0 #[] 0 (Nat.le_refl _) (Nat.zero_le _) rfl) _
  have hE2b:Below w0.heap.size w0 ((w0.alloc (.cells #[.int .i64 0,.int .i64 0,.string ⟨#[]⟩,.slice none 0 0,.slice none 0 0] 41)).alloc (.cells #[] 9)).drew:=(((Below.refl _ _).alloc (Nat.le_refl _) _).alloc (by simp) _).drew
  have hE2:((w0.alloc (.cells #[.int .i64 0,.int .i64 0,.string ⟨#[]⟩,.slice none 0 0,.slice none 0 0] 41)).alloc (.cells #[] 9)).drew.ownsRow w0.heap.size 9 1 (.slice (some ⟨w0.heap.size+1,0,none⟩) 0 0) 0 []:=by
   have:=World.ownsRow_lit (base:=w0.heap.size) (e:=9) (size:=1) (w0.alloc (.cells #[.int .i64 0,.int .i64 0,.string ⟨#[]⟩,.slice none 0 0,.slice none 0 0] 41)) #[] 0 (by simp) (Nat.zero_le _) rfl
   rw [show (w0.alloc (.cells #[.int .i64 0,.int .i64 0,.string ⟨#[]⟩,.slice none 0 0,.slice none 0 0] 41)).heap.size=w0.heap.size+1 by simp] at this
   exact this
  have hE1w:Whole1 ((w0.alloc (.cells #[] 9)).alloc (.cells #[.int .i64 0,.int .i64 0,.string ⟨#[]⟩,.slice none 0 0,.slice none 0 0] 41)).drew (w0.heap.size+1) 41 #[.int .i64 0,.int .i64 0,.string ⟨#[]⟩,.slice none 0 0,.slice none 0 0]:=by
   have:=Whole1.new (w0.alloc (.cells #[] 9)) 41 #[.int .i64 0,.int .i64 0,.string ⟨#[]⟩,.slice none 0 0,.slice none 0 0]
   rw [show (w0.alloc (.cells #[] 9)).heap.size=w0.heap.size+1 by simp] at this
   exact this
  have hE2w:Whole1 ((w0.alloc (.cells #[.int .i64 0,.int .i64 0,.string ⟨#[]⟩,.slice none 0 0,.slice none 0 0] 41)).alloc (.cells #[] 9)).drew w0.heap.size 41 #[.int .i64 0,.int .i64 0,.string ⟨#[]⟩,.slice none 0 0,.slice none 0 0]:=by
   have:=Whole1.new w0 41 #[.int .i64 0,.int .i64 0,.string ⟨#[]⟩,.slice none 0 0,.slice none 0 0]
   exact Whole1.below (B:=w0.heap.size+1) this ((Below.refl _ _).alloc (show w0.heap.size+1≤(w0.alloc (.cells #[.int .i64 0,.int .i64 0,.string ⟨#[]⟩,.slice none 0 0,.slice none 0 0] 41)).heap.size by simp) _).drew (by omega)
  go_region_held_law (fun w'=>w'.cell? ⟨w.heap.size,0,none⟩=some (.int .i64 k0)∧w'.cell? ⟨w.heap.size,1,none⟩=some (.int .i64 n0)∧w'.cell? ⟨w.heap.size,2,none⟩=some (.string nm)∧w'.cell? ⟨w.heap.size,3,none⟩=some (.slice L ls.length lc)) (first | (with_reducible exact ⟨q0,q1,q2,q3⟩) | (with_reducible exact ⟨ha0,ha1,ha2,ha3⟩) | (with_reducible exact ⟨hb0 _,hb1 _,hb2 _,hb3 _⟩) | (with_reducible exact ⟨hc0 _ _ _ _ _,hc1 _ _ _ _ _,hc2 _ _ _ _ _,hc3 _ _ _ _ _⟩) | (with_reducible exact ⟨kC hE0b q0 hpl,kC hE0b q1 hpl,kC hE0b q2 hpl,kC hE0b q3 hpl⟩) | (with_reducible exact ⟨kC hE1b q0 hpl,kC hE1b q1 hpl,kC hE1b q2 hpl,kC hE1b q3 hpl⟩) | (with_reducible exact ⟨kC hE2b q0 hpl,kC hE2b q1 hpl,kC hE2b q2 hpl,kC hE2b q3 hpl⟩) | go_keep)
   (first
    | (refine step_append_cells _ (by rfl) (.tmp 11) (.tmp 13) _ (by rfl) w0.heap.size 9 i0 (.string ⟨#[]⟩) 1 16 Tryz.underlying24 hi hz0 hz1 hz2 rfl (by decide) _ 0 [] (by rfl) hE0 L ls.length lc (strVals ls) (by rfl) (by simp [strVals]) (hl0.up' hE0b).cells (strVals_one _) (by unfold maxLen;omega) (by omega) hE0b.size ?_;intro v1 w1 hown1 hg1;obtain ⟨A1,c1,rfl,hrow⟩:=own_form (ss:=ls) hown1 (by simp);have hB1:=hE0b.grown hg1 hE0b.size (fun q hq=>(hE0.lt q hq).1);have ha0:=(kC hB1 q0 hpl);have ha1:=(kC hB1 q1 hpl);have ha2:=(kC hB1 q2 hpl);have ha3:=(kC hB1 q3 hpl);have hb0:=fun o=>((hB1.alloc hB1.size o).cell (p:=⟨w.heap.size,0,none⟩) hpl).trans q0;have hb1:=fun o=>((hB1.alloc hB1.size o).cell (p:=⟨w.heap.size,1,none⟩) hpl).trans q1;have hb2:=fun o=>((hB1.alloc hB1.size o).cell (p:=⟨w.heap.size,2,none⟩) hpl).trans q2;have hb3:=fun o=>((hB1.alloc hB1.size o).cell (p:=⟨w.heap.size,3,none⟩) hpl).trans q3)
    | (refine step_append_cells _ (by rfl) (.tmp 11) (.tmp 13) _ (by rfl) w0.heap.size 9 i0 (.string ⟨#[]⟩) 1 16 Tryz.underlying24 hi hz0 hz1 hz2 rfl (by decide) _ 0 [] (by rfl) hE1 L ls.length lc (strVals ls) (by rfl) (by simp [strVals]) (hl0.up' hE1b).cells (strVals_one _) (by unfold maxLen;omega) (by omega) hE1b.size ?_;intro v1 w1 hown1 hg1;obtain ⟨A1,c1,rfl,hrow⟩:=own_form (ss:=ls) hown1 (by simp);have hB1:=hE1b.grown hg1 hE1b.size (fun q hq=>(hE1.lt q hq).1);have ha0:=(kC hB1 q0 hpl);have ha1:=(kC hB1 q1 hpl);have ha2:=(kC hB1 q2 hpl);have ha3:=(kC hB1 q3 hpl);have hb0:=fun o=>((hB1.alloc hB1.size o).cell (p:=⟨w.heap.size,0,none⟩) hpl).trans q0;have hb1:=fun o=>((hB1.alloc hB1.size o).cell (p:=⟨w.heap.size,1,none⟩) hpl).trans q1;have hb2:=fun o=>((hB1.alloc hB1.size o).cell (p:=⟨w.heap.size,2,none⟩) hpl).trans q2;have hb3:=fun o=>((hB1.alloc hB1.size o).cell (p:=⟨w.heap.size,3,none⟩) hpl).trans q3;have hw:Whole1 w1 (w0.heap.size+1) 41 #[.int .i64 0,.int .i64 0,.string ⟨#[]⟩,.slice none 0 0,.slice none 0 0]:=(hg1.block (w0.heap.size+1) (by simp) (by simp [Value.ownBlock])).trans hE1w;obtain ⟨m0,m1,m2,m3,m4⟩:=hw.c5;obtain ⟨f0,f1,f2,f3,f4⟩:=hw.f5;have hc0:=fun u0 u1 u2 u3 u4=>((((((hB1.setCell (p:=⟨w0.heap.size+1,0,none⟩) (by simp) u0).setCell (p:=⟨w0.heap.size+1,1,none⟩) (by simp) u1).setCell (p:=⟨w0.heap.size+1,2,none⟩) (by simp) u2).setCell (p:=⟨w0.heap.size+1,3,none⟩) (by simp) u3).setCell (p:=⟨w0.heap.size+1,4,none⟩) (by simp) u4).cell (p:=⟨w.heap.size,0,none⟩) hpl).trans q0;have hc1:=fun u0 u1 u2 u3 u4=>((((((hB1.setCell (p:=⟨w0.heap.size+1,0,none⟩) (by simp) u0).setCell (p:=⟨w0.heap.size+1,1,none⟩) (by simp) u1).setCell (p:=⟨w0.heap.size+1,2,none⟩) (by simp) u2).setCell (p:=⟨w0.heap.size+1,3,none⟩) (by simp) u3).setCell (p:=⟨w0.heap.size+1,4,none⟩) (by simp) u4).cell (p:=⟨w.heap.size,1,none⟩) hpl).trans q1;have hc2:=fun u0 u1 u2 u3 u4=>((((((hB1.setCell (p:=⟨w0.heap.size+1,0,none⟩) (by simp) u0).setCell (p:=⟨w0.heap.size+1,1,none⟩) (by simp) u1).setCell (p:=⟨w0.heap.size+1,2,none⟩) (by simp) u2).setCell (p:=⟨w0.heap.size+1,3,none⟩) (by simp) u3).setCell (p:=⟨w0.heap.size+1,4,none⟩) (by simp) u4).cell (p:=⟨w.heap.size,2,none⟩) hpl).trans q2;have hc3:=fun u0 u1 u2 u3 u4=>((((((hB1.setCell (p:=⟨w0.heap.size+1,0,none⟩) (by simp) u0).setCell (p:=⟨w0.heap.size+1,1,none⟩) (by simp) u1).setCell (p:=⟨w0.heap.size+1,2,none⟩) (by simp) u2).setCell (p:=⟨w0.heap.size+1,3,none⟩) (by simp) u3).setCell (p:=⟨w0.heap.size+1,4,none⟩) (by simp) u4).cell (p:=⟨w.heap.size,3,none⟩) hpl).trans q3)
    | (refine step_append_cells _ (by rfl) (.tmp 11) (.tmp 13) _ (by rfl) w0.heap.size 9 i0 (.string ⟨#[]⟩) 1 16 Tryz.underlying24 hi hz0 hz1 hz2 rfl (by decide) _ 0 [] (by rfl) hE2 L ls.length lc (strVals ls) (by rfl) (by simp [strVals]) (hl0.up' hE2b).cells (strVals_one _) (by unfold maxLen;omega) (by omega) hE2b.size ?_;intro v1 w1 hown1 hg1;obtain ⟨A1,c1,rfl,hrow⟩:=own_form (ss:=ls) hown1 (by simp);have hB1:=hE2b.grown hg1 hE2b.size (fun q hq=>(hE2.lt q hq).1);have ha0:=(kC hB1 q0 hpl);have ha1:=(kC hB1 q1 hpl);have ha2:=(kC hB1 q2 hpl);have ha3:=(kC hB1 q3 hpl);have hb0:=fun o=>((hB1.alloc hB1.size o).cell (p:=⟨w.heap.size,0,none⟩) hpl).trans q0;have hb1:=fun o=>((hB1.alloc hB1.size o).cell (p:=⟨w.heap.size,1,none⟩) hpl).trans q1;have hb2:=fun o=>((hB1.alloc hB1.size o).cell (p:=⟨w.heap.size,2,none⟩) hpl).trans q2;have hb3:=fun o=>((hB1.alloc hB1.size o).cell (p:=⟨w.heap.size,3,none⟩) hpl).trans q3;have hw:Whole1 w1 (w0.heap.size) 41 #[.int .i64 0,.int .i64 0,.string ⟨#[]⟩,.slice none 0 0,.slice none 0 0]:=(hg1.block (w0.heap.size) (by simp;omega) (by simp [Value.ownBlock])).trans hE2w;obtain ⟨m0,m1,m2,m3,m4⟩:=hw.c5;obtain ⟨f0,f1,f2,f3,f4⟩:=hw.f5;have hc0:=fun u0 u1 u2 u3 u4=>((((((hB1.setCell (p:=⟨w0.heap.size,0,none⟩) (by simp) u0).setCell (p:=⟨w0.heap.size,1,none⟩) (by simp) u1).setCell (p:=⟨w0.heap.size,2,none⟩) (by simp) u2).setCell (p:=⟨w0.heap.size,3,none⟩) (by simp) u3).setCell (p:=⟨w0.heap.size,4,none⟩) (by simp) u4).cell (p:=⟨w.heap.size,0,none⟩) hpl).trans q0;have hc1:=fun u0 u1 u2 u3 u4=>((((((hB1.setCell (p:=⟨w0.heap.size,0,none⟩) (by simp) u0).setCell (p:=⟨w0.heap.size,1,none⟩) (by simp) u1).setCell (p:=⟨w0.heap.size,2,none⟩) (by simp) u2).setCell (p:=⟨w0.heap.size,3,none⟩) (by simp) u3).setCell (p:=⟨w0.heap.size,4,none⟩) (by simp) u4).cell (p:=⟨w.heap.size,1,none⟩) hpl).trans q1;have hc2:=fun u0 u1 u2 u3 u4=>((((((hB1.setCell (p:=⟨w0.heap.size,0,none⟩) (by simp) u0).setCell (p:=⟨w0.heap.size,1,none⟩) (by simp) u1).setCell (p:=⟨w0.heap.size,2,none⟩) (by simp) u2).setCell (p:=⟨w0.heap.size,3,none⟩) (by simp) u3).setCell (p:=⟨w0.heap.size,4,none⟩) (by simp) u4).cell (p:=⟨w.heap.size,2,none⟩) hpl).trans q2;have hc3:=fun u0 u1 u2 u3 u4=>((((((hB1.setCell (p:=⟨w0.heap.size,0,none⟩) (by simp) u0).setCell (p:=⟨w0.heap.size,1,none⟩) (by simp) u1).setCell (p:=⟨w0.heap.size,2,none⟩) (by simp) u2).setCell (p:=⟨w0.heap.size,3,none⟩) (by simp) u3).setCell (p:=⟨w0.heap.size,4,none⟩) (by simp) u4).cell (p:=⟨w.heap.size,3,none⟩) hpl).trans q3))
  all_goals go_wp2
  all_goals go_meet
  all_goals first | exact vcopy_new hrow hB1 | exact vcopy_stored (by omega) hw hrow hB1
 case rest=>
  obtain ⟨po,c1,A1,rfl,hpo,ho0,hrow,hbc⟩:=hcut
  have p1:=p0.below hbc p0.lt
  have r1:=r0.below hbc r0.lt
  have hb1:=hb0.trans (hbc.mono hb0.size)
  have ha1:=ha.up hb1
  have hpl:w.heap.size<wc.heap.size:=p1.lt
  have hrl:w.heap.size+1<wc.heap.size:=r1.lt
  have hol:po<wc.heap.size:=ho0.lt
  have hpo':w.heap.size+2≤po:=by have:=HZ.out;omega
  have HROW:=Lib.hid hrow
  have hm:=ha1.1
  have hmn:=Lib.hid hm
  obtain ⟨i1,hi1,hy0,hy1,hy2⟩:=info_parts infoValue
  clear p0 r0 hl0 hrow hm
  go_wp2
  go_loopw [4] (fun i wr=>∃ (k:Nat) (c2:Nat) (A2:Option Addr),k≤ts.length∧i=.int .i64 k∧Whole1 wr po 41 #[.int .i64 k0,.int .i64 n0,.string nm,.slice A1 ls.length c1,.slice A2 k c2]∧VGather wr wc.heap.size (.slice A2 k c2) k ts∧(∀ q,q<wc.heap.size→q≠po→wr.heap[q]?=wc.heap[q]?)∧Below w.heap.size w wr∧wc.heap.size≤wr.heap.size) (fun i _=>ts.length - (intOf i).toNat)
  case atStart=>exact ⟨0,0,none,Nat.zero_le _,rfl,ho0,VGather.start _ _ _,fun _ _ _=>rfl,hb1,Nat.le_refl _⟩
  case round=>
   obtain ⟨k,c2,A2,hk,rfl,ho,hga,hold,hb,hsz1⟩:=hrel
   have HOLD:=Lib.hid hold
   have p2:Whole1 wr w.heap.size 41 #[.int .i64 k0,.int .i64 n0,.string nm,.slice L ls.length lc,.slice A ts.length ac]:=(hold _ hpl (by omega)).trans p1
   have q2:wr.cell? ⟨w.heap.size,4,none⟩=some (.slice A ts.length ac):=p2.cell 4
   clear hold
   by_cases hlt:k<ts.length
   ·obtain ⟨xs,vs,lo,hi',hG⟩:=hga
    obtain ⟨b,off,M,mc,C,cc,rfl,hbl,e0,e1,e2,e3,e4,ht⟩:=(ha.below hb).elem k hlt
    have hbs:=hb.size
    have HT:=Lib.hid (HALL.out k hlt _ wr.drew ((ht.more hbs).up (Below.refl _ _).drew))
    have HG:=Lib.hid hG
    have HO:=Lib.hid ho
    have o2:wr.cell? ⟨po,4,none⟩=some (.slice A2 k c2):=ho.cell 4
    have f2:wr.frozen? ⟨po,4,none⟩=false:=ho.free 4
    have hbw:b<wr.heap.size:=by omega
    have hpw:w.heap.size<wr.heap.size:=by omega
    have how:po<wr.heap.size:=by omega
    have hown0:=hG.own
    have HOWN:=Lib.hid hown0
    have hrl2:=HRL.out k hlt
    clear hG ho ht p2 hown0
    go_wp2
    go_region_law (first
     | (go_simp;go_at_call 128;refine HT.out.mono ?_;rintro e w1 ⟨v1,rfl,ht1,hb1⟩;have HT1:=Lib.hid ht1;obtain ⟨T1,U1,T2,U2,_,rfl,_⟩:=ht1.open;clear ht1;have hb1':=(Below.refl wr.heap.size wr).drew.trans hb1;have y2:=(kC hb1' o2 how);have y3:=((hb1'.alloc hb1'.size (.cells #[.int .i64 ts[k].kind,.int .i64 ts[k].num,.string ts[k].name,.slice T1 ts[k].labels.length U1,.slice T2 ts[k].args.length U2] 41)).cell (p:=⟨po,4,none⟩) how).trans o2;have hown2:=World.ownsRow.alloc (own_keep5 HOWN.out (fun g hg=>hb1'.block g (HOWN.out.lt g hg).2)) (.cells #[.int .i64 ts[k].kind,.int .i64 ts[k].num,.string ts[k].name,.slice T1 ts[k].labels.length U1,.slice T2 ts[k].args.length U2] 41);have hnews:=news5 w1 41 (.int .i64 ts[k].kind) (.int .i64 ts[k].num) (.string ts[k].name) (.slice T1 ts[k].labels.length U1) (.slice T2 ts[k].args.length U2))
     | (refine step_append_lies _ (by rfl) (.tmp 24) (.tmp 31) _ (by rfl) wc.heap.size 41 i1 (.agg #[.int .i64 0,.int .i64 0,.string ⟨#[]⟩,.slice none 0 0,.slice none 0 0]) 5 80 Tryz.underlying39 hi1 hy0 hy1 hy2 rfl (by decide) _ k xs (by rfl) hown2 ⟨w1.heap.size,0,none⟩ 1 1 [.int .i64 ts[k].kind,.int .i64 ts[k].num,.string ts[k].name,.slice T1 ts[k].labels.length U1,.slice T2 ts[k].args.length U2] (by rfl) rfl hnews.1 hnews.2 (by omega) (by unfold maxLen;omega) (by omega) (by have:=hb1'.size;simp;omega) (w1.heap.size+1) (by simp) ?_;intro g cap w3 hown3 hg3 hat3 hlt3;have hvb:=fun q (hq:(Value.slice A2 k c2).ownBlock=some q)=>(HOWN.out.lt q hq).1;have ho3:Whole1 w3 po 41 #[.int .i64 k0,.int .i64 n0,.string nm,.slice A1 ls.length c1,.slice A2 k c2]:=((hg3.block po (by have:=hb1'.size;simp;omega) (fun e=>by have:=hvb po e.symm;omega)).trans (Below.heap_alloc _ _ _ (by have:=hb1'.size;omega))).trans ((hb1'.block po how).trans HO.out);have m2:w3.cell? ⟨po,4,none⟩=some (.slice A2 k c2):=ho3.cell 4;have n2:w3.frozen? ⟨po,4,none⟩=false:=ho3.free 4))
    all_goals
     go_wp2
     go_roundw
     case rel=>exact ⟨k+1,cap,some ⟨g,0,none⟩,by omega,by go_num,vcopy_rel hrl2 hol (by omega) hsz1 HG.out hb1' (by exact HT1.out) hown3 hg3 hat3 ho3 HOLD.out hb⟩
     case measure=>simp [intOf];omega
   ·have hke:k=ts.length:=by omega
    subst hke
    have r2:Whole1 wr (w.heap.size+1) 41 #[.int .i64 0,.int .i64 0,.string ⟨#[]⟩,.slice none 0 0,.slice none 0 0]:=(HOLD.out _ hrl (by omega)).trans r1
    obtain ⟨o0,o1,o2,o3,o4⟩:=ho.c5
    obtain ⟨d0,d1,d2,d3,d4⟩:=r2.c5
    obtain ⟨e0,e1,e2,e3,e4⟩:=r2.f5
    have hdone:VasIn wr (Span wc.heap.size wr.heap.size) A2 ts:=by
     exact hga.done hmn.out
    have HD:=Lib.hid hdone
    clear p2 r2 ho hga hdone q2
    have q2:wr.cell? ⟨w.heap.size,4,none⟩=some (.slice A ts.length ac):=by
     have:Whole1 wr w.heap.size 41 #[.int .i64 k0,.int .i64 n0,.string nm,.slice L ls.length lc,.slice A ts.length ac]:=(HOLD.out _ hpl (by omega)).trans p1
     exact this.cell 4
    go_wp2
    refine bodyPost_ret (v:=.agg #[.int .i64 k0,.int .i64 n0,.string nm,.slice A1 ls.length c1,.slice A2 ts.length c2]) (by simp [results,Tryz.results128,go_sem,d0,d1,d2,d3,d4]) rfl ⟨_,rfl,?_,?_⟩
    ·have hk':∀ q,q≠w.heap.size+1→(((((wr.setCell ⟨w.heap.size+1,0,none⟩ (.int .i64 k0)).setCell ⟨w.heap.size+1,1,none⟩ (.int .i64 n0)).setCell ⟨w.heap.size+1,2,none⟩ (.string nm)).setCell ⟨w.heap.size+1,3,none⟩ (.slice A1 ls.length c1)).setCell ⟨w.heap.size+1,4,none⟩ (.slice A2 ts.length c2)).heap[q]?=wr.heap[q]?:=fun q hq=>by
      rw [Below.heap_setCell _ _ _ _ hq,Below.heap_setCell _ _ _ _ hq,Below.heap_setCell _ _ _ _ hq,Below.heap_setCell _ _ _ _ hq,Below.heap_setCell _ _ _ _ hq]
     have hS:(((((wr.setCell ⟨w.heap.size+1,0,none⟩ (.int .i64 k0)).setCell ⟨w.heap.size+1,1,none⟩ (.int .i64 n0)).setCell ⟨w.heap.size+1,2,none⟩ (.string nm)).setCell ⟨w.heap.size+1,3,none⟩ (.slice A1 ls.length c1)).setCell ⟨w.heap.size+1,4,none⟩ (.slice A2 ts.length c2)).heap.size=wr.heap.size:=by simp [World.setCell]
     rw [hS]
     have hD2:=HD.out.keep (w':=(((((wr.setCell ⟨w.heap.size+1,0,none⟩ (.int .i64 k0)).setCell ⟨w.heap.size+1,1,none⟩ (.int .i64 n0)).setCell ⟨w.heap.size+1,2,none⟩ (.string nm)).setCell ⟨w.heap.size+1,3,none⟩ (.slice A1 ls.length c1)).setCell ⟨w.heap.size+1,4,none⟩ (.slice A2 ts.length c2))) fun b hb' _=>hk' b (by have:=hb'.1;omega)
     have hzz:=HZ.out
     rcases HROW.out with hl0 | ⟨g,hA1,hg0,hgp,hrg⟩
     ·have h9:=VaIn.of (t:=(.mk k0 n0 nm ls ts)) (L:=A1) (lc:=c1) (ac:=c2) (gl:=0) (S:=Span w.heap.size wr.heap.size) HNM.out hn HN.out (.inl hl0) hD2 fun b hb'=>⟨⟨by have:=hb'.1;omega,hb'.2⟩,by have:=hb'.1;omega⟩
      simp only [Va.kind,Va.num,Va.name,Va.labels,Va.args] at h9
      exact h9
     ·have hgl:=hrg.lt
      have h9:=VaIn.of (t:=(.mk k0 n0 nm ls ts)) (L:=A1) (lc:=c1) (ac:=c2) (gl:=g) (S:=Span w.heap.size wr.heap.size) HNM.out hn HN.out (.inr ⟨hA1,⟨by omega,by omega⟩,(hrg.same (HOLD.out g hgl fun e=>hgp e.symm)).same (hk' g (by omega))⟩) hD2 fun b hb'=>⟨⟨by have:=hb'.1;omega,hb'.2⟩,by have:=hb'.1;omega⟩
      simp only [Va.kind,Va.num,Va.name,Va.labels,Va.args] at h9
      exact h9
    ·exact ((((hb.setCell (by simp) _).setCell (by simp) _).setCell (by simp) _).setCell (by simp) _).setCell (by simp) _
theorem specCopyV_any (t:Va):CopyVOne t:=by
 induction t using Va.ind with
 | h k n nm ls ts ih=>exact specCopyV_of k n nm ls ts ih
end Go.Proofs.YtfnblkcmcfofoaaGreatDoor
