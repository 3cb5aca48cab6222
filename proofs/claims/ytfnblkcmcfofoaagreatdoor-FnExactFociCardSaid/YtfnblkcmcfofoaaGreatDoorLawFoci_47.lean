/- Lemmas: ImplFoci. -/
import Derived.Test.YtfnblkcmcfofoaaGreatDoorLawFoci_28
import Derived.Test.YtfnblkcmcfofoaaGreatDoorLawFoci_30
import Derived.Test.YtfnblkcmcfofoaaGreatDoorLawFoci_43
import Derived.Test.YtfnblkcmcfofoaaGreatDoorLawFoci_48

namespace Go.Proofs.YtfnblkcmcfofoaaGreatDoor
set_option maxRecDepth 100000
set_option linter.unusedSimpArgs false
open Go.RowKit
attribute [local go_sem ↓] Go.wp_at_zero Go.wp_at_succ
def TopI (r:Option (List Va)) (w:World) (e:Ending) (w':World):Prop:=∃ A c,e=.returned (.tuple #[.slice A (r.getD []).length c,.bool r.isSome])∧VasIn w' (Span w.heap.size w'.heap.size) A (r.getD [])∧Below w.heap.size w w'
theorem vasIn_none (w:World) (S:Nat→Prop) (A:Option Addr):VasIn w S A []:=⟨Nat.zero_le _,0,fun _=>.bool false,fun _ _=>False,.inl rfl,fun i hi=>absurd hi (by simp),fun i _ hi=>absurd hi (by simp),fun i hi=>absurd hi (by simp)⟩
def noVa:Va:=.mk 0 0 ⟨#[]⟩ [] []
theorem VasIn.elem {w:World} {S:Nat→Prop} {A:Option Addr} {ts:List Va} (h:VasIn w S A ts) (i:Nat) (hi:i<ts.length):
  ∃ g L lc A' ac,A=some ⟨g,0,none⟩∧g<w.heap.size∧w.cell? ⟨g,i * 5,none⟩=some (.int .i64 ts[i].kind)∧w.cell? ⟨g,i * 5+1,none⟩=some (.int .i64 ts[i].num)∧w.cell? ⟨g,i * 5+2,none⟩=some (.string ts[i].name)∧
   w.cell? ⟨g,i * 5+3,none⟩=some (.slice L ts[i].labels.length lc)∧w.cell? ⟨g,i * 5+4,none⟩=some (.slice A' ts[i].args.length ac)∧
   VaIn w S (.agg #[.int .i64 ts[i].kind,.int .i64 ts[i].num,.string ts[i].name,.slice L ts[i].labels.length lc,.slice A' ts[i].args.length ac]) ts[i]:=by
 obtain ⟨h0,ga,vs,Ss,h1,h2,h3,h4⟩:=h
 rcases h1 with rfl | ⟨rfl,h5,h6⟩
 ·exact absurd hi (by simp)
 ·have ht:=(h4 i hi).wide (S':=S) fun b hb=>(h2 i hi b hb).1
  obtain ⟨L,lc,A',ac,gl,hv,_⟩:=ht.open
  have hc:=fun j (hj:j<5)=>h6.cell i j hi hj
  rw [hv] at hc ht
  exact ⟨ga,L,lc,A',ac,rfl,h6.lt,hc 0 (by omega),hc 1 (by omega),hc 2 (by omega),hc 3 (by omega),hc 4 (by omega),ht⟩
theorem VasIn.wide0 {w:World} {S S':Nat→Prop} {A:Option Addr} {ts:List Va} (h:VasIn w S A ts) (hS:∀ b,S b→S' b):VasIn w S' A ts:=by
 obtain ⟨h0,ga,vs,Ss,h1,h2,h3,h4⟩:=h
 exact ⟨h0,ga,vs,Ss,h1.imp id fun ⟨a,b,c⟩=>⟨a,hS _ b,c⟩,fun i hi b hb=>⟨hS _ (h2 i hi b hb).1,(h2 i hi b hb).2⟩,h3,h4⟩
theorem noVa_in (w:World) (S:Nat→Prop):VaIn w S (.agg #[.int .i64 0,.int .i64 0,.string ⟨#[]⟩,.slice none 0 0,.slice none 0 0]) noVa:=VaIn.mk (k:=0) (n:=0) (nm:=⟨#[]⟩) (ls:=[]) (ts:=[]) 0 1 (fun _=>.bool false) (fun _ _=>False) (Nat.zero_le _) (Nat.zero_le _) (fun i h=>absurd h (by simp)) (Nat.zero_le _) (.inl rfl) (.inl rfl) (by omega) (fun i hi=>absurd hi (by simp)) (fun i _ hi=>absurd hi (by simp)) (fun i hi=>absurd hi (by simp))
set_option maxHeartbeats 4000000 in
theorem implFociT_any (s:Ty) (o:Ot) (v:Va) (sv ov vv:Value) (w:World) (hs:OwnT w sv s) (ho:OwnO w ov o) (hv:OwnV w vv v) {u:Value} (hU:UnfitAt w u) (hJ:JoinsAt w) (hF:FormsAt w) (hnum:numsB v=true) (zs:szTy s≤1048576) (zo:szOt o≤1048576) (zv:szVa v≤1048576):
  Calls Tryz.prog 21 #[sv,ov,vv] w (TopI (fociB s o v) w):=by
 obtain ⟨L0,l0,A0,a0,rfl⟩:=hs.any.open
 obtain ⟨A1,a1,rfl,_⟩:=ho.open
 obtain ⟨L2,l2,A2,a2,rfl,_⟩:=hv.open
 obtain ⟨hb0,p0,q0,r0,hs0⟩:=boxes3 w 27 30 41 #[.int .i64 s.kind,.slice L0 s.labels.length l0,.slice A0 s.args.length a0] #[.int .i64 o.kind,.string o.name,.int .i64 o.num,.slice A1 o.args.length a1] #[.int .i64 v.kind,.int .i64 v.num,.string v.name,.slice L2 v.labels.length l2,.slice A2 v.args.length a2]
 have hs1:=hs.up hb0
 have ho1:=ho.up hb0
 have hv1:=hv.up hb0
 have HI:=Lib.hid (implIsTyped_any s o _ _ _ (hU.below hb0) (hJ.below hb0) hs1 ho1 zs zo)
 have HH:=Lib.hid (fun W (h:Below w.heap.size w W) (h1:OwnV W (.agg #[.int .i64 v.kind,.int .i64 v.num,.string v.name,.slice L2 v.labels.length l2,.slice A2 v.args.length a2]) v) (h2:OwnT W (.agg #[.int .i64 s.kind,.slice L0 s.labels.length l0,.slice A0 s.args.length a0]) s)=>implHas_any v s _ _ W h1 h2 (hF.below h) hnum zv zs)
 have HB0:=Lib.hid hb0
 have HS:=Lib.hid hs1
 have HO:=Lib.hid ho1
 have HV:=Lib.hid hv1
 clear hs ho hv hs1 ho1 hv1 hb0 hU hJ
 go_enter Tryz.func21,Tryz.ntmps21
 go_wp2_with fail
 generalize ((w.alloc (.cells #[.int .i64 s.kind,.slice L0 s.labels.length l0,.slice A0 s.args.length a0] 27)).alloc (.cells #[.int .i64 o.kind,.string o.name,.int .i64 o.num,.slice A1 o.args.length a1] 30)).alloc (.cells #[.int .i64 v.kind,.int .i64 v.num,.string v.name,.slice L2 v.labels.length l2,.slice A2 v.args.length a2] 41)=w0 at *
 cases hty:(opticTypeB s o).isSome
 ·have HN:=Lib.hid (fociB_off (v:=v) hty)
  rw [hty] at HI
  refine HI.out.mono ?_
  rintro e w1 ⟨rfl,hb1⟩
  have HB1:=Lib.hid (HB0.out.trans (hb1.mono HB0.out.size))
  clear hb1 hty
  go_wp2
  refine bodyPost_ret (v:=.tuple #[.slice none 0 0,.bool false]) (by simp [results,Tryz.results21,go_sem]) rfl ?_
  rw [HN.out]
  exact ⟨_,_,rfl,vasIn_none _ _ _,HB1.out⟩
 ·rw [hty] at HI
  refine HI.out.mono ?_
  rintro e w1 ⟨rfl,hb1⟩
  have HB1:=Lib.hid hb1
  have pl:=p0.below hb1 p0.lt
  have ql:=q0.below hb1 q0.lt
  have rl:=r0.below hb1 r0.lt
  have HTY:=Lib.hid hty
  have HH1:=Lib.hid (HH.out w1 (HB0.out.trans (HB1.out.mono HB0.out.size)) (HV.out.up HB1.out) (HS.out.up HB1.out))
  clear hb1 hty HH HI
  obtain ⟨ps0,ps1,ps2⟩:=pl.c3
  obtain ⟨po0,po1,po2,po3⟩:=ql.c4
  obtain ⟨pv0,pv1,pv2,pv3,pv4⟩:=rl.c5
  clear pl ql rl
  cases hty2:hasTypeB v s
  ·have HN:=Lib.hid (fociB_no (o:=o) hty2)
   rw [hty2] at HH1
   clear hty2
   go_wp2_with fail
   refine HH1.out.mono ?_
   rintro e w2 ⟨rfl,hb2⟩
   have HB2:=Lib.hid (HB0.out.trans ((HB1.out.trans (hb2.mono HB1.out.size)).mono HB0.out.size))
   clear hb2 ps0 ps1 ps2 po0 po1 po2 po3 pv0 pv1 pv2 pv3 pv4
   go_wp2
   refine bodyPost_ret (v:=.tuple #[.slice none 0 0,.bool false]) (by simp [results,Tryz.results21,go_sem]) rfl ?_
   rw [HN.out]
   exact ⟨_,_,rfl,vasIn_none _ _ _,HB2.out⟩
  ·obtain ⟨t,kd,hfit⟩:=fit_top HTY.out hty2
   have HN:=Lib.hid (fociB_some HTY.out hty2)
   have hlen:=hfit.szf
   rw [hty2] at HH1
   clear hty2
   go_wp2_with fail
   refine HH1.out.mono ?_
   rintro e w2 ⟨rfl,hb2⟩
   have hb02:=HB1.out.trans (hb2.mono HB1.out.size)
   have HB2:=Lib.hid (HB0.out.trans (hb02.mono HB0.out.size))
   have pl:=p0.below hb02 p0.lt
   have ql:=q0.below hb02 q0.lt
   have rl:=r0.below hb02 r0.lt
   clear ps0 ps1 ps2 po0 po1 po2 po3 pv0 pv1 pv2 pv3 pv4
   obtain ⟨ps0,ps1,ps2⟩:=pl.c3
   obtain ⟨po0,po1,po2,po3⟩:=ql.c4
   obtain ⟨pv0,pv1,pv2,pv3,pv4⟩:=rl.c5
   have HC:=Lib.hid (fociOne_any o s t kd v _ _ w2 (fun _=>True) hfit (HO.out.up hb02).here ((VaR.of_at (HV.out.up hb02).here (Nat.le_refl _)).wide fun _ _ _=>trivial))
   obtain ⟨ls,hls⟩:∃ ls,ls=fociO o v:=⟨_,rfl⟩
   rw [← hls] at HC HN hlen
   clear hb2 hb02 pl ql rl hfit hls
   go_wp2_with fail
   refine HC.out.mono ?_
   rintro e w3 ⟨A3,c3,rfl,h3,hb3⟩
   have HM:=Lib.hid (mappedCopy_any ls A3 c3 w3 h3.here (by omega))
   have HB3:=Lib.hid (HB2.out.trans (hb3.mono HB2.out.size))
   clear h3 hb3 ps0 ps1 ps2 po0 po1 po2 po3 pv0 pv1 pv2 pv3 pv4
   go_wp2_with fail
   refine HM.out.mono ?_
   rintro e w4 ⟨A4,c4,rfl,h4,hb4⟩
   have HB4:=Lib.hid (HB3.out.trans (hb4.mono HB3.out.size))
   have HL:=Lib.hid (h4.wide0 (S':=Span w.heap.size w4.heap.size) fun q hq=>⟨Nat.le_trans HB3.out.size hq.1,hq.2⟩)
   clear h4 hb4
   go_wp2
   refine bodyPost_ret (v:=.tuple #[.slice A4 ls.length c4,.bool true]) (by simp [results,Tryz.results21,go_sem]) rfl ?_
   rw [HN.out]
   exact ⟨A4,c4,rfl,HL.out,HB4.out⟩
def cntimpl (r:Option (List Va)):Int:=match r with | some l=>l.length | none=>-1
def Intimpl (n:Int) (w:World) (e:Ending) (w':World):Prop:=e=.returned (.int .i64 n)∧Below w.heap.size w w'
set_option maxHeartbeats 4000000 in
theorem implCount_any (s:Ty) (o:Ot) (v:Va) (sv ov vv:Value) (w:World) (hs:OwnT w sv s) (ho:OwnO w ov o) (hv:OwnV w vv v) {u:Value} (hU:UnfitAt w u) (hJ:JoinsAt w) (hF:FormsAt w) (hnum:numsB v=true) (zs:szTy s≤1048576) (zo:szOt o≤1048576) (zv:szVa v≤1048576):
  Calls Tryz.prog 26 #[sv,ov,vv] w (Intimpl (cntimpl (fociB s o v)) w):=by
 obtain ⟨L0,l0,A0,a0,rfl⟩:=hs.any.open
 obtain ⟨A1,a1,rfl,_⟩:=ho.open
 obtain ⟨L2,l2,A2,a2,rfl,_⟩:=hv.open
 obtain ⟨hb0,p0,q0,r0,hs0⟩:=boxes3 w 27 30 41 #[.int .i64 s.kind,.slice L0 s.labels.length l0,.slice A0 s.args.length a0] #[.int .i64 o.kind,.string o.name,.int .i64 o.num,.slice A1 o.args.length a1] #[.int .i64 v.kind,.int .i64 v.num,.string v.name,.slice L2 v.labels.length l2,.slice A2 v.args.length a2]
 have hs1:=hs.up hb0
 have ho1:=ho.up hb0
 have hv1:=hv.up hb0
 have HI:=Lib.hid (implFociT_any s o v _ _ _ _ hs1 ho1 hv1 (hU.below hb0) (hJ.below hb0) (hF.below hb0) hnum zs zo zv)
 have HB0:=Lib.hid hb0
 generalize fociB s o v=r at *
 clear hs ho hv hs1 ho1 hv1 hb0 p0 q0 r0 hs0 hU hJ hF
 go_enter Tryz.func26,Tryz.ntmps26
 go_wp2_with fail
 refine HI.out.mono ?_
 rintro e w1 ⟨A3,c3,rfl,h3,hb1⟩
 have HB1:=Lib.hid (HB0.out.trans (hb1.mono HB0.out.size))
 clear h3 hb1 HI
 cases r with
 | none=>
  go_wp2
  go_ret
  exact ⟨rfl,HB1.out⟩
 | some l=>
  simp only [Option.getD_some,Option.isSome_some]
  go_wp2
  go_ret
  exact ⟨rfl,HB1.out⟩
def firstimpl (r:Option (List Va)):Va:=match r with | some (x::_)=>x | _=>noVa
def hasimpl (r:Option (List Va)):Bool:=match r with | some (_::_)=>true | _=>false
def FirstI (x:Va) (b:Bool) (w:World) (e:Ending) (w':World):Prop:=∃ y,e=.returned (.tuple #[y,.bool b])∧VaIn w' (Span w.heap.size w'.heap.size) y x∧Below w.heap.size w w'
set_option maxHeartbeats 8000000 in
theorem implFirst_any (s:Ty) (o:Ot) (v:Va) (sv ov vv:Value) (w:World) (hs:OwnT w sv s) (ho:OwnO w ov o) (hv:OwnV w vv v) {u:Value} (hU:UnfitAt w u) (hJ:JoinsAt w) (hF:FormsAt w) (hnum:numsB v=true) (zs:szTy s≤1048576) (zo:szOt o≤1048576) (zv:szVa v≤1048576):
  Calls Tryz.prog 23 #[sv,ov,vv] w (FirstI (firstimpl (fociB s o v)) (hasimpl (fociB s o v)) w):=by
 obtain ⟨L0,l0,A0,a0,rfl⟩:=hs.any.open
 obtain ⟨A1,a1,rfl,_⟩:=ho.open
 obtain ⟨L2,l2,A2,a2,rfl,_⟩:=hv.open
 obtain ⟨hb0,p0,q0,r0,z0⟩:=boxes4 w 27 30 41 41 #[.int .i64 s.kind,.slice L0 s.labels.length l0,.slice A0 s.args.length a0] #[.int .i64 o.kind,.string o.name,.int .i64 o.num,.slice A1 o.args.length a1] #[.int .i64 v.kind,.int .i64 v.num,.string v.name,.slice L2 v.labels.length l2,.slice A2 v.args.length a2] #[.int .i64 0,.int .i64 0,.string ⟨#[]⟩,.slice none 0 0,.slice none 0 0]
 have hs1:=hs.up hb0
 have ho1:=ho.up hb0
 have hv1:=hv.up hb0
 have HI:=Lib.hid (implFociT_any s o v _ _ _ _ hs1 ho1 hv1 (hU.below hb0) (hJ.below hb0) (hF.below hb0) hnum zs zo zv)
 have HB0:=Lib.hid hb0
 have hz0:((((w.alloc (.cells #[.int .i64 s.kind,.slice L0 s.labels.length l0,.slice A0 s.args.length a0] 27)).alloc (.cells #[.int .i64 o.kind,.string o.name,.int .i64 o.num,.slice A1 o.args.length a1] 30)).alloc (.cells #[.int .i64 v.kind,.int .i64 v.num,.string v.name,.slice L2 v.labels.length l2,.slice A2 v.args.length a2] 41)).alloc (.cells #[.int .i64 0,.int .i64 0,.string ⟨#[]⟩,.slice none 0 0,.slice none 0 0] 41)).heap.size=w.heap.size+4:=by simp
 generalize fociB s o v=r at *
 clear hs ho hv hs1 ho1 hv1 hb0 p0 q0 r0 hU hJ hF
 go_enter Tryz.func23,Tryz.ntmps23
 go_wp2_with fail
 generalize (((w.alloc (.cells #[.int .i64 s.kind,.slice L0 s.labels.length l0,.slice A0 s.args.length a0] 27)).alloc (.cells #[.int .i64 o.kind,.string o.name,.int .i64 o.num,.slice A1 o.args.length a1] 30)).alloc (.cells #[.int .i64 v.kind,.int .i64 v.num,.string v.name,.slice L2 v.labels.length l2,.slice A2 v.args.length a2] 41)).alloc (.cells #[.int .i64 0,.int .i64 0,.string ⟨#[]⟩,.slice none 0 0,.slice none 0 0] 41)=w0 at *
 have HZ:=Lib.hid hz0
 clear hz0
 refine HI.out.mono ?_
 rintro e w1 ⟨A3,c3,rfl,h3,hb1⟩
 have HB1:=Lib.hid (HB0.out.trans (hb1.mono HB0.out.size))
 have HS1:=Lib.hid hb1.size
 have zl:=z0.below hb1 z0.lt
 have HZL:=Lib.hid zl.lt
 obtain ⟨d0,d1,d2,d3,d4⟩:=zl.c5
 obtain ⟨df0,df1,df2,df3,df4⟩:=zl.f5
 clear hb1 HI z0 zl
 have HF0:=Lib.hid (show FirstI noVa false w (.returned (.tuple #[.agg #[.int .i64 0,.int .i64 0,.string ⟨#[]⟩,.slice none 0 0,.slice none 0 0],.bool false])) (((((w1.setCell ⟨w.heap.size+1+1+1,0,none⟩ (.int .i64 0)).setCell ⟨w.heap.size+1+1+1,1,none⟩ (.int .i64 0)).setCell ⟨w.heap.size+1+1+1,2,none⟩ (.string ⟨#[]⟩)).setCell ⟨w.heap.size+1+1+1,3,none⟩ (.slice none 0 0)).setCell ⟨w.heap.size+1+1+1,4,none⟩ (.slice none 0 0)) from ⟨_,rfl,noVa_in _ _,((((HB1.out.setCell (p:=⟨w.heap.size+1+1+1,0,none⟩) (by show w.heap.size≤w.heap.size+1+1+1;omega) _).setCell (p:=⟨w.heap.size+1+1+1,1,none⟩) (by show w.heap.size≤w.heap.size+1+1+1;omega) _).setCell (p:=⟨w.heap.size+1+1+1,2,none⟩) (by show w.heap.size≤w.heap.size+1+1+1;omega) _).setCell (p:=⟨w.heap.size+1+1+1,3,none⟩) (by show w.heap.size≤w.heap.size+1+1+1;omega) _).setCell (p:=⟨w.heap.size+1+1+1,4,none⟩) (by show w.heap.size≤w.heap.size+1+1+1;omega) _⟩)
 cases r with
 | none=>
  clear h3
  go_wp2
  refine bodyPost_ret (v:=.tuple #[.agg #[.int .i64 0,.int .i64 0,.string ⟨#[]⟩,.slice none 0 0,.slice none 0 0],.bool false]) (by simp [results,Tryz.results23,go_sem,d0,d1,d2,d3,d4]) rfl ?_
  exact HF0.out
 | some l=>
  simp only [Option.getD_some,Option.isSome_some] at h3 ⊢
  cases l with
  | nil=>
   clear h3
   simp only [List.length_nil]
   go_wp2
   refine bodyPost_ret (v:=.tuple #[.agg #[.int .i64 0,.int .i64 0,.string ⟨#[]⟩,.slice none 0 0,.slice none 0 0],.bool false]) (by simp [results,Tryz.results23,go_sem,d0,d1,d2,d3,d4]) rfl ?_
   exact HF0.out
  | cons x l=>
   obtain ⟨b,T1,U1,T2,U2,rfl,hbl,e0,e1,e2,e3,e4,hx⟩:=h3.elem 0 (by simp)
   simp only [List.getElem_cons_zero,Nat.zero_mul,Nat.zero_add] at e0 e1 e2 e3 e4 hx
   have HX:=Lib.hid hx
   have n0:¬ ((l.length:Int)+1=0):=by omega
   have n1:(0:Int)<(l.length:Int)+1:=by omega
   clear h3 hx
   simp only [List.length_cons]
   go_wp2
   refine bodyPost_ret (v:=.tuple #[.agg #[.int .i64 x.kind,.int .i64 x.num,.string x.name,.slice T1 x.labels.length U1,.slice T2 x.args.length U2],.bool true]) (by simp [results,Tryz.results23,go_sem,d0,d1,d2,d3,d4]) rfl ⟨_,rfl,?_,?_⟩
   ·have hk':∀ q,q≠w.heap.size+1+1+1→((((((w1.setCell ⟨w.heap.size+1+1+1,0,none⟩ (.int .i64 x.kind)).setCell ⟨w.heap.size+1+1+1,1,none⟩ (.int .i64 x.num)).setCell ⟨w.heap.size+1+1+1,2,none⟩ (.string x.name)).setCell ⟨w.heap.size+1+1+1,3,none⟩ (.slice T1 x.labels.length U1)).setCell ⟨w.heap.size+1+1+1,4,none⟩ (.slice T2 x.args.length U2))).heap[q]?=w1.heap[q]?:=fun q hq=>by
     rw [Below.heap_setCell _ _ _ _ hq,Below.heap_setCell _ _ _ _ hq,Below.heap_setCell _ _ _ _ hq,Below.heap_setCell _ _ _ _ hq,Below.heap_setCell _ _ _ _ hq]
    have hzz:=HZ.out
    exact (HX.out.keep (fun q hq _=>hk' q (by have:=hq.1;omega))).wide fun q hq=>⟨by have:=hq.1;omega,by have:=hq.2;simpa [World.setCell] using this⟩
   ·exact ((((HB1.out.setCell (p:=⟨w.heap.size+1+1+1,0,none⟩) (by show w.heap.size≤w.heap.size+1+1+1;omega) _).setCell (p:=⟨w.heap.size+1+1+1,1,none⟩) (by show w.heap.size≤w.heap.size+1+1+1;omega) _).setCell (p:=⟨w.heap.size+1+1+1,2,none⟩) (by show w.heap.size≤w.heap.size+1+1+1;omega) _).setCell (p:=⟨w.heap.size+1+1+1,3,none⟩) (by show w.heap.size≤w.heap.size+1+1+1;omega) _).setCell (p:=⟨w.heap.size+1+1+1,4,none⟩) (by show w.heap.size≤w.heap.size+1+1+1;omega) _
end Go.Proofs.YtfnblkcmcfofoaaGreatDoor
