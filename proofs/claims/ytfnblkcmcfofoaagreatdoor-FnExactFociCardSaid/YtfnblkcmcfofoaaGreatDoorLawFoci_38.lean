/- Lemmas: TypMap, TypElse. -/
import Derived.Test.YtfnblkcmcfofoaaGreatDoorLawFoci_36
import Derived.Test.YtfnblkcmcfofoaaGreatDoorLawFoci_37
import Derived.Deep.CutRange
import Derived.Deep.DeepCutAuto
import Derived.Test.YtfnblkcmcfofoaaGreatDoorLawFoci_34

namespace Go.Proofs.YtfnblkcmcfofoaaGreatDoor
section
set_option maxRecDepth 100000
set_option linter.unusedSimpArgs false
open Go.RowKit
attribute [local go_sem ↓] Go.wp_at_zero Go.wp_at_succ
structure GotT (N:Nat→Prop) (u:Value) (r:Option (Ty×Int)) (b wx:World) (z:Nat) (L:Option Addr) (lc:Nat) (A:Option Addr) (ac:Nat) (t:Ty) (kd:Int) (x:Value):Prop where
 box:Whole1 wx z 83 #[.int .i64 t.kind,.slice L t.labels.length lc,.slice A t.args.length ac,.int .i64 kd]
 tree:OwnA N wx (.agg #[.int .i64 t.kind,.slice L t.labels.length lc,.slice A t.args.length ac]) t
 below:Below b.heap.size b wx
 small:szTy t≤2000
 err:(r=none∧x=u)∨(r=some (t,kd)∧x=.nilIface)
theorem GotT.late {N:Nat→Prop} {u:Value} {r:Option (Ty×Int)} {b w1:World} {lc ac:Nat} {L A:Option Addr} {t:Ty} {kd:Int} {x:Value} (hv:OwnA N w1 (.agg #[.int .i64 t.kind,.slice L t.labels.length lc,.slice A t.args.length ac]) t) (hb:Below b.heap.size b w1) (hs:szTy t≤2000) (he:(r=none∧x=u)∨(r=some (t,kd)∧x=.nilIface)):
  GotT N u r b (w1.alloc (.cells #[.int .i64 t.kind,.slice L t.labels.length lc,.slice A t.args.length ac,.int .i64 kd] 83)) w1.heap.size L lc A ac t kd x:=by
 have ha:=(Below.refl w1.heap.size w1).alloc (Nat.le_refl _) (.cells #[.int .i64 t.kind,.slice L t.labels.length lc,.slice A t.args.length ac,.int .i64 kd] 83)
 exact ⟨Whole1.new _ _ _,hv.up ha,hb.trans (ha.mono hb.size),hs,he⟩
theorem GotT.early {N:Nat→Prop} {u:Value} {r:Option (Ty×Int)} {b w1:World} {g lc ac:Nat} {L A:Option Addr} {t:Ty} {kd:Int} {x:Value} (hv:OwnA (fun q=>N q∨q=g) w1 (.agg #[.int .i64 t.kind,.slice L t.labels.length lc,.slice A t.args.length ac]) t) (hz:Whole1 w1 g 83 #[.int .i64 0,.slice none 0 0,.slice none 0 0,.int .i64 0]) (hg:b.heap.size≤g) (hb:Below b.heap.size b w1) (hs:szTy t≤2000) (he:(r=none∧x=u)∨(r=some (t,kd)∧x=.nilIface)):
  GotT N u r b ((((w1.setCell ⟨g,0,none⟩ (.int .i64 t.kind)).setCell ⟨g,1,none⟩ (.slice L t.labels.length lc)).setCell ⟨g,2,none⟩ (.slice A t.args.length ac)).setCell ⟨g,3,none⟩ (.int .i64 kd)) g L lc A ac t kd x:=
 ⟨(((hz.set 0 (.int .i64 t.kind)).set 1 (.slice L t.labels.length lc)).set 2 (.slice A t.args.length ac)).set 3 (.int .i64 kd),hv.set _ _ _ _,set4_below hg hb _ _ _ _,hs,he⟩
theorem mapO_no1 {f:Ty→Option (Ty×Int)} {sl:List ByteArray} {te:Ty} (h:f te=none):mapO f (.mk 5 sl [te])=none:=by
 have h5:(Ty.mk 5 sl [te]).kind=5:=rfl
 simp only [mapO,h5,if_true,Ty.args,List.getElem?_cons_zero,h]
theorem mapO_no2 {f:Ty→Option (Ty×Int)} {sl:List ByteArray} {te t:Ty} {kd:Int} (h:f te=some (t,kd)) (hk:kd≠1):mapO f (.mk 5 sl [te])=none:=by
 have h5:(Ty.mk 5 sl [te]).kind=5:=rfl
 simp only [mapO,h5,if_true,Ty.args,List.getElem?_cons_zero,h,if_neg hk]
theorem mapO_yes {f:Ty→Option (Ty×Int)} {sl:List ByteArray} {te t:Ty} (h:f te=some (t,1)):mapO f (.mk 5 sl [te])=some (.mk 5 [] [t],1):=by
 have h5:(Ty.mk 5 sl [te]).kind=5:=rfl
 simp only [mapO,h5,if_true,Ty.args,List.getElem?_cons_zero,h]
set_option maxHeartbeats 4000000 in
theorem typMap_any (o:Ot) (h1:TypOne o) {N:Nat→Prop} {u:Value} {r:Option (Ty×Int)} (s:Ty) (sv ov:Value) (w:World) (hN:∀ b,N b→b<w.heap.size) (hU:UnfitAt w u) (hJ:JoinsAt w) (hv:OwnA N w sv s) (ho:OtAt w w.heap.size ov o) (hval:validB s=true) (hf:formOt o=true) (hz:szOt o≤1048576) (hr:r=mapO (typeO o) s):
  Calls Tryz.prog 180 #[sv,ov] w (TypPost N u r w):=by
 obtain ⟨L,lc,A,ac,rfl⟩:=hv.open
 obtain ⟨B,bc,rfl,_⟩:=ho.open
 obtain ⟨hb0,p0,q0,zz0,hs0⟩:=boxes3 w 27 30 83 #[.int .i64 s.kind,.slice L s.labels.length lc,.slice A s.args.length ac] #[.int .i64 o.kind,.string o.name,.int .i64 o.num,.slice B o.args.length bc] #[.int .i64 0,.slice none 0 0,.slice none 0 0,.int .i64 0]
 have hv0:=(hv.late (w.heap.size+1+1) (by omega)).up hb0
 have ho0:=ho.up hb0
 have hN0:∀ b,(N b∨b=w.heap.size+1+1)→b<(((w.alloc (.cells #[.int .i64 s.kind,.slice L s.labels.length lc,.slice A s.args.length ac] 27)).alloc (.cells #[.int .i64 o.kind,.string o.name,.int .i64 o.num,.slice B o.args.length bc] 30)).alloc (.cells #[.int .i64 0,.slice none 0 0,.slice none 0 0,.int .i64 0] 83)).heap.size:=fun b hb=>hb.elim (fun hb=>Nat.lt_of_lt_of_le (hN b hb) hb0.size) (fun e=>e ▸ zz0.lt)
 have HU0:=Lib.hid (hU.below hb0)
 have HJ0:=Lib.hid (hJ.below hb0)
 obtain ⟨hug,huc,ua,rfl⟩:=hU
 have HR:=Lib.hid hr
 have HB0:=Lib.hid hb0
 have HZ0:=Lib.hid zz0
 have HP0:=Lib.hid p0
 have HQ0:=Lib.hid q0
 have HN0:=Lib.hid hN0
 have HV0:=Lib.hid hv0
 have HO0:=Lib.hid ho0
 clear hv hN hr hJ hug huc ho hb0 zz0 p0 q0 hv0 ho0 hN0 hs0
 go_enter Tryz.func180,Tryz.ntmps180
 go_upto_region 1 with fail
 generalize ((w.alloc (.cells #[.int .i64 s.kind,.slice L s.labels.length lc,.slice A s.args.length ac] 27)).alloc (.cells #[.int .i64 o.kind,.string o.name,.int .i64 o.num,.slice B o.args.length bc] 30)).alloc (.cells #[.int .i64 0,.slice none 0 0,.slice none 0 0,.int .i64 0] 83)=w0 at *
 obtain ⟨sp0,sp1,sp2⟩:=HP0.out.c3
 by_cases h5:s.kind=5
 ·have i1:(s.kind != 5)=false:=by simp [h5]
  obtain ⟨k,sl,sa⟩:=s
  simp only [Ty.kind,Ty.labels,Ty.args] at *
  subst h5
  obtain ⟨te,rfl⟩:=list_one hval
  obtain ⟨g,L',lc',A',ac',rfl,hg,x0,x1,x2,hx⟩:=HV0.out.elem 0 (by simp [Ty.args])
  have hvte:validB te=true:=valid_elem hval
  have y0:w0.cell? ⟨g,0,none⟩=some (.int .i64 te.kind):=x0
  have y1:w0.cell? ⟨g,1,none⟩=some (.slice L' te.labels.length lc'):=x1
  have y2:w0.cell? ⟨g,2,none⟩=some (.slice A' te.args.length ac'):=x2
  have hy:OwnA (fun b=>N b∨b=w.heap.size+1+1) w0 (.agg #[.int .i64 te.kind,.slice L' te.labels.length lc',.slice A' te.args.length ac']) te:=hx
  obtain ⟨r1,hr1⟩:∃ x,x=typeO o te:=⟨_,rfl⟩
  have HR1:=Lib.hid hr1
  have hqb:=HQ0.out.lt
  have hpb:=HP0.out.lt
  have HTa:Hid (Calls Tryz.prog 100 #[.agg #[.int .i64 te.kind,.slice L' te.labels.length lc',.slice A' te.args.length ac'],.agg #[.int .i64 o.kind,.string o.name,.int .i64 o.num,.slice B o.args.length bc]] w0.drew (TypPost (fun b=>N b∨b=w.heap.size+1+1) (.iface 246 (.pointer (some ua))) r1 w0.drew)):=Lib.hid (h1 _ _ r1 te _ _ _ HN0.out (HU0.out.below (Below.refl _ _).drew) (HJ0.out.below (Below.refl _ _).drew) hy.drew (HO0.out.up (Below.refl _ _).drew) hvte hf hz hr1)
  have HBB:=Lib.hid (((Below.refl w0.heap.size w0).alloc (Nat.le_refl _) (.cells #[.int .i64 0,.slice none 0 0,.slice none 0 0,.int .i64 0] 83)).drew)
  have HTb:Hid (Calls Tryz.prog 100 #[.agg #[.int .i64 te.kind,.slice L' te.labels.length lc',.slice A' te.args.length ac'],.agg #[.int .i64 o.kind,.string o.name,.int .i64 o.num,.slice B o.args.length bc]] (w0.alloc (.cells #[.int .i64 0,.slice none 0 0,.slice none 0 0,.int .i64 0] 83)).drew (TypPost (fun b=>(N b∨b=w.heap.size+1+1)∨b=w0.heap.size) (.iface 246 (.pointer (some ua))) r1 (w0.alloc (.cells #[.int .i64 0,.slice none 0 0,.slice none 0 0,.int .i64 0] 83)).drew)):=Lib.hid (h1 _ _ r1 te _ _ _ (fun b hb=>hb.elim (fun hb=>Nat.lt_of_lt_of_le (HN0.out b hb) HBB.out.size) (fun e=>by subst e;simp)) (HU0.out.below HBB.out) (HJ0.out.below HBB.out) ((hy.late w0.heap.size (Nat.le_refl _)).up HBB.out) (HO0.out.up HBB.out) hvte hf hz hr1)
  clear x0 x1 x2 hx hr1 hy hvte h1 hf hz hval
  go_upto_region 3 with fail
  have bA:=(Below.refl w0.heap.size w0).drew
  have bB:=((Below.refl w0.heap.size w0).alloc (Nat.le_refl _) (.cells #[.int .i64 0,.slice none 0 0,.slice none 0 0,.int .i64 0] 83)).drew
  have zB:Whole1 (w0.alloc (.cells #[.int .i64 0,.slice none 0 0,.slice none 0 0,.int .i64 0] 83)).drew w0.heap.size 83 #[.int .i64 0,.slice none 0 0,.slice none 0 0,.int .i64 0]:=Whole1.new w0 83 #[.int .i64 0,.slice none 0 0,.slice none 0 0,.int .i64 0]
  have KS:=Lib.hid (fun (x:World) (hx:Below w0.heap.size w0 x)=>(show x.cell? ⟨w.heap.size,2,none⟩=some (.slice (some ⟨g,0,none⟩) 1 ac)∧x.cell? ⟨g,0,none⟩=some (.int .i64 te.kind)∧x.cell? ⟨g,1,none⟩=some (.slice L' te.labels.length lc')∧x.cell? ⟨g,2,none⟩=some (.slice A' te.args.length ac')∧x.cell? ⟨w.heap.size+1,0,none⟩=some (.int .i64 o.kind)∧x.cell? ⟨w.heap.size+1,1,none⟩=some (.string o.name)∧x.cell? ⟨w.heap.size+1,2,none⟩=some (.int .i64 o.num)∧x.cell? ⟨w.heap.size+1,3,none⟩=some (.slice B o.args.length bc) from ⟨kC hx (HP0.out.cell 2) hpb,kC hx y0 hg,kC hx y1 hg,kC hx y2 hg,kC hx (HQ0.out.cell 0) hqb,kC hx (HQ0.out.cell 1) hqb,kC hx (HQ0.out.cell 2) hqb,kC hx (HQ0.out.cell 3) hqb⟩))
  go_cut [6,7] from 14 to 23 (fun p x wx=>∃ z L1 lc1 A1 ac1 t1 k1,p=.pointer (some ⟨z,0,none⟩)∧GotT (fun b=>N b∨b=w.heap.size+1+1) (.iface 246 (.pointer (some ua))) r1 w0 wx z L1 lc1 A1 ac1 t1 k1 x)
  case first=>
   go_region_held3 (fun x:World=>x.cell? ⟨w.heap.size,2,none⟩=some (.slice (some ⟨g,0,none⟩) 1 ac)∧x.cell? ⟨g,0,none⟩=some (.int .i64 te.kind)∧x.cell? ⟨g,1,none⟩=some (.slice L' te.labels.length lc')∧x.cell? ⟨g,2,none⟩=some (.slice A' te.args.length ac')∧x.cell? ⟨w.heap.size+1,0,none⟩=some (.int .i64 o.kind)∧x.cell? ⟨w.heap.size+1,1,none⟩=some (.string o.name)∧x.cell? ⟨w.heap.size+1,2,none⟩=some (.int .i64 o.num)∧x.cell? ⟨w.heap.size+1,3,none⟩=some (.slice B o.args.length bc)) (first | with_reducible exact KS.out _ bA | with_reducible exact KS.out _ bB | with_reducible exact KS.out _ hb1 | with_reducible exact KS.out _ (hb1.trans (((Below.refl _ _).alloc (Nat.le_refl _) _).mono hb1.size)) | with_reducible exact KS.out _ (set4_below (Nat.le_refl _) hb1 _ _ _ _) | go_keep) (first | (go_simp;go_at_call 100;(first | (with_reducible refine HTa.out.mono ?_) | (with_reducible refine HTb.out.mono ?_));rintro e w1 ⟨L1,lc1,A1,ac1,t1,k1,x1,rfl,hv2,hb1',hs1,hor⟩;have HV2:=Lib.hid hv2;have HOR:=Lib.hid hor;have HSS:=Lib.hid hs1;have hb1:Below w0.heap.size w0 w1:=(by first | exact bA.trans (hb1'.mono bA.size) | exact bB.trans (hb1'.mono bB.size));(try have HZ1:=Lib.hid (zB.below hb1' zB.lt));(try have zq0:w1.cell? ⟨w0.heap.size,0,none⟩=some (.int .i64 0):=HZ1.out.cell 0);(try have zr0:w1.frozen? ⟨w0.heap.size,0,none⟩=false:=HZ1.out.free 0);(try have zq1:w1.cell? ⟨w0.heap.size,1,none⟩=some (.slice none 0 0):=HZ1.out.cell 1);(try have zr1:w1.frozen? ⟨w0.heap.size,1,none⟩=false:=HZ1.out.free 1);(try have zq2:w1.cell? ⟨w0.heap.size,2,none⟩=some (.slice none 0 0):=HZ1.out.cell 2);(try have zr2:w1.frozen? ⟨w0.heap.size,2,none⟩=false:=HZ1.out.free 2);(try have zq3:w1.cell? ⟨w0.heap.size,3,none⟩=some (.int .i64 0):=HZ1.out.cell 3);(try have zr3:w1.frozen? ⟨w0.heap.size,3,none⟩=false:=HZ1.out.free 3);clear hb1' hv2 hor hs1))
   all_goals go_wp2
   all_goals go_meet
   all_goals first | exact ⟨_,L1,lc1,A1,ac1,t1,k1,rfl,GotT.late HV2.out hb1 HSS.out HOR.out⟩ | exact ⟨_,L1,lc1,A1,ac1,t1,k1,rfl,GotT.late (HV2.out.less fun _ h=>.inl h) hb1 HSS.out HOR.out⟩ | exact ⟨_,L1,lc1,A1,ac1,t1,k1,rfl,GotT.early HV2.out HZ1.out (Nat.le_refl _) hb1 HSS.out HOR.out⟩
  case rest=>
   obtain ⟨z,L1,lc1,A1,ac1,t1,k1,rfl,hG⟩:=hcut
   have HG1:=Lib.hid hG
   have HBC:=Lib.hid (HB0.out.trans (hG.below.mono HB0.out.size))
   have HUC:=Lib.hid (HU0.out.below hG.below)
   have HZC:=Lib.hid (HZ0.out.below hG.below HZ0.out.lt)
   have hor:=hG.err
   clear hG HTa HTb y0 y1 y2
   rcases hor with ⟨rn,rfl⟩ | ⟨rs,rfl⟩
   ·have HRN:=Lib.hid (HR.out.trans (mapO_no1 (HR1.out.symm.trans rn)))
    obtain ⟨d0,d1,d2,d3⟩:=HZC.out.c4
    obtain ⟨df0,df1,df2,df3⟩:=HZC.out.f4
    have e0:=dC d0
    have ef0:=dF df0
    have e1:=dC d1
    have ef1:=dF df1
    have e2:=dC d2
    have ef2:=dF df2
    have e3:=dC d3
    have ef3:=dF df3
    have hu0:wc.cell? ⟨0,0,none⟩=some (.iface 246 (.pointer (some ua))):=HUC.out.2.1
    have hud:=dC hu0
    have HF:=Lib.hid (typ_none (N:=N) (u:=(.iface 246 (.pointer (some ua)))) HBC.out HRN.out)
    have HG:=Lib.hid (fun a b c d=>typ_drew ((typ_none4 (N:=N) (u:=(.iface 246 (.pointer (some ua)))) (show w.heap.size≤w.heap.size+1+1 by omega) HBC.out HRN.out a b c d)))
    clear rn
    go_wp2
    go_region
    go_wp2
    first | exact bodyPost_ret (v:=.tuple #[.agg #[.int .i64 0,.slice none 0 0,.slice none 0 0,.int .i64 0],.iface 246 (.pointer (some ua))]) (by simp [results,Tryz.results180,go_sem,d0,d1,d2,d3,e0,e1,e2,e3]) rfl HF.out | exact bodyPost_ret (v:=.tuple #[.agg #[.int .i64 0,.slice none 0 0,.slice none 0 0,.int .i64 0],.iface 246 (.pointer (some ua))]) (by simp [results,Tryz.results180,go_sem,d0,d1,d2,d3,e0,e1,e2,e3]) rfl (HG.out _ _ _ _)
   ·have HRS:=Lib.hid (HR1.out.symm.trans rs)
    clear rs
    obtain ⟨m0,m1,m2,m3⟩:=HG1.out.box.c4
    by_cases hk:k1=1
    ·subst hk
     have HRY:=Lib.hid (HR.out.trans (mapO_yes HRS.out))
     have hst:szTy (Ty.mk 5 [] [t1])≤2000:=by
      have h1:=szTy_eq (Ty.mk 5 [] [t1])
      have h2:=szTy_valid (typeO_valid HRS.out)
      simp [Ty.labels,Ty.args,sumSizes,szTys] at h1
      omega
     obtain ⟨hb8,r8,q8,hs8⟩:=boxes2 wc 27 27 #[.int .i64 t1.kind,.slice L1 t1.labels.length lc1,.slice A1 t1.args.length ac1] #[.int .i64 5,.slice none 0 0,.slice (some ⟨wc.heap.size,0,none⟩) 1 1]
     have hzz:w.heap.size+1+1<wc.heap.size:=HZC.out.lt
     have hown:=list_own (ac:=1) (k:=5) HG1.out.tree (fun q hq=>hq.elim (fun h=>Nat.lt_of_lt_of_le (HN0.out q (.inl h)) HG1.out.below.size) (fun e=>e ▸ hzz)) hb8 (Nat.le_refl _) r8
     have HF:=Lib.hid (fun a b c d=>typ_fin (r:=r) (u:=(.iface 246 (.pointer (some ua)))) (kd:=1) (show w.heap.size≤w.heap.size+1+1 by omega) (HBC.out.trans (hb8.mono HBC.out.size)) hown hst (.inr ⟨HRY.out,rfl⟩) a b c d)
     have z8:=HZC.out.below hb8 HZC.out.lt
     obtain ⟨d0,d1,d2,d3⟩:=z8.c4
     obtain ⟨df0,df1,df2,df3⟩:=z8.f4
     clear hs8 hown r8 q8 hb8 z8 hst hzz
     go_wp2
     exact bodyPost_ret (v:=.tuple #[.agg #[.int .i64 5,.slice none 0 0,.slice (some ⟨wc.heap.size,0,none⟩) 1 1,.int .i64 1],.nilIface]) (by simp [results,Tryz.results180,go_sem,d0,d1,d2,d3]) rfl (HF.out _ _ _ _)
    ·have i2:(k1 != 1)=true:=by simpa using hk
     have HRN:=Lib.hid (HR.out.trans (mapO_no2 HRS.out hk))
     clear hk
     obtain ⟨d0,d1,d2,d3⟩:=HZC.out.c4
     obtain ⟨df0,df1,df2,df3⟩:=HZC.out.f4
     have e0:=dC d0
     have ef0:=dF df0
     have e1:=dC d1
     have ef1:=dF df1
     have e2:=dC d2
     have ef2:=dF df2
     have e3:=dC d3
     have ef3:=dF df3
     have hu0:wc.cell? ⟨0,0,none⟩=some (.iface 246 (.pointer (some ua))):=HUC.out.2.1
     have hud:=dC hu0
     have HF:=Lib.hid (typ_none (N:=N) (u:=(.iface 246 (.pointer (some ua)))) HBC.out HRN.out)
     have HG:=Lib.hid (fun a b c d=>typ_drew ((typ_none4 (N:=N) (u:=(.iface 246 (.pointer (some ua)))) (show w.heap.size≤w.heap.size+1+1 by omega) HBC.out HRN.out a b c d)))
     go_wp2
     go_region
     go_wp2
     first | exact bodyPost_ret (v:=.tuple #[.agg #[.int .i64 0,.slice none 0 0,.slice none 0 0,.int .i64 0],.iface 246 (.pointer (some ua))]) (by simp [results,Tryz.results180,go_sem,d0,d1,d2,d3,e0,e1,e2,e3]) rfl HF.out | exact bodyPost_ret (v:=.tuple #[.agg #[.int .i64 0,.slice none 0 0,.slice none 0 0,.int .i64 0],.iface 246 (.pointer (some ua))]) (by simp [results,Tryz.results180,go_sem,d0,d1,d2,d3,e0,e1,e2,e3]) rfl (HG.out _ _ _ _)
 ·have i1:(s.kind != 5)=true:=by simpa using h5
  have HRN:=Lib.hid (HR.out.trans (mapO_none h5))
  clear h5
  obtain ⟨d0,d1,d2,d3⟩:=HZ0.out.c4
  obtain ⟨df0,df1,df2,df3⟩:=HZ0.out.f4
  have e0:=dC d0
  have ef0:=dF df0
  have e1:=dC d1
  have ef1:=dF df1
  have e2:=dC d2
  have ef2:=dF df2
  have e3:=dC d3
  have ef3:=dF df3
  have hu0:w0.cell? ⟨0,0,none⟩=some (.iface 246 (.pointer (some ua))):=HU0.out.2.1
  have hud:=dC hu0
  have HF:=Lib.hid (typ_none (N:=N) (u:=(.iface 246 (.pointer (some ua)))) HB0.out HRN.out)
  have HG:=Lib.hid (fun a b c d=>typ_drew ((typ_none4 (N:=N) (u:=(.iface 246 (.pointer (some ua)))) (show w.heap.size≤w.heap.size+1+1 by omega) HB0.out HRN.out a b c d)))
  go_wp2
  go_region
  go_wp2
  first | exact bodyPost_ret (v:=.tuple #[.agg #[.int .i64 0,.slice none 0 0,.slice none 0 0,.int .i64 0],.iface 246 (.pointer (some ua))]) (by simp [results,Tryz.results180,go_sem,d0,d1,d2,d3,e0,e1,e2,e3]) rfl HF.out | exact bodyPost_ret (v:=.tuple #[.agg #[.int .i64 0,.slice none 0 0,.slice none 0 0,.int .i64 0],.iface 246 (.pointer (some ua))]) (by simp [results,Tryz.results180,go_sem,d0,d1,d2,d3,e0,e1,e2,e3]) rfl (HG.out _ _ _ _)
end
section
set_option maxRecDepth 100000
set_option linter.unusedSimpArgs false
open Go.RowKit
attribute [local go_sem ↓] Go.wp_at_zero Go.wp_at_succ
theorem elseO_no1 {f g:Ty→Option (Ty×Int)} {s a:Ty} {one:Int} (h:f s=some (a,one)) (hw:withinB one 4=false):elseO f g s=none:=by
 simp only [elseO,h,hw,Bool.false_and,Bool.false_eq_true,if_false]
 cases g s<;>rfl
theorem elseO_no2 {f g:Ty→Option (Ty×Int)} {s a:Ty} {one:Int} (h:f s=some (a,one)) (hg:g s=none):elseO f g s=none:=by simp only [elseO,h,hg]
theorem elseO_no3 {f g:Ty→Option (Ty×Int)} {s a b:Ty} {one two:Int} (h:f s=some (a,one)) (hg:g s=some (b,two)) (hw:withinB two 4=false):elseO f g s=none:=by
 simp only [elseO,h,hg,hw,Bool.false_and,Bool.and_false,Bool.false_eq_true,if_false]
theorem elseO_no4 {f g:Ty→Option (Ty×Int)} {s a b:Ty} {one two:Int} (h:f s=some (a,one)) (hg:g s=some (b,two)) (hw:eqTyB a b=false):elseO f g s=none:=by
 simp only [elseO,h,hg,hw,Bool.and_false,Bool.false_eq_true,if_false]
theorem elseO_yes {f g:Ty→Option (Ty×Int)} {s a b:Ty} {one two:Int} (h:f s=some (a,one)) (hg:g s=some (b,two)) (hw:withinB one 4=true) (hw2:withinB two 4=true) (he:eqTyB a b=true):elseO f g s=some (a,4):=by
 simp only [elseO,h,hg,hw,hw2,he,Bool.and_true,if_true]
set_option maxHeartbeats 4000000 in
theorem typElse_any (o1 o2:Ot) (h1:TypOne o1) (h2:TypOne o2) {N:Nat→Prop} {u:Value} {r:Option (Ty×Int)} (s:Ty) (sv v1 v2:Value) (w:World) (hN:∀ b,N b→b<w.heap.size) (hU:UnfitAt w u) (hJ:JoinsAt w) (hv:OwnA N w sv s) (ho1:OtAt w w.heap.size v1 o1) (ho2:OtAt w w.heap.size v2 o2)
  (hval:validB s=true) (f1:formOt o1=true) (f2:formOt o2=true) (z1:szOt o1≤1048576) (z2:szOt o2≤1048576) (hr:r=elseO (typeO o1) (typeO o2) s):
  Calls Tryz.prog 182 #[sv,v1,v2] w (TypPost N u r w):=by
 obtain ⟨L,lc,A,ac,rfl⟩:=hv.open
 obtain ⟨B1,bc1,rfl,_⟩:=ho1.open
 obtain ⟨B2,bc2,rfl,_⟩:=ho2.open
 obtain ⟨hb0,p0,q0,q0',zz0⟩:=boxes4 w 27 30 30 83 #[.int .i64 s.kind,.slice L s.labels.length lc,.slice A s.args.length ac] #[.int .i64 o1.kind,.string o1.name,.int .i64 o1.num,.slice B1 o1.args.length bc1] #[.int .i64 o2.kind,.string o2.name,.int .i64 o2.num,.slice B2 o2.args.length bc2] #[.int .i64 0,.slice none 0 0,.slice none 0 0,.int .i64 0]
 have hv0:=(hv.late (w.heap.size+1+1+1) (by omega)).up hb0
 have ho1':=ho1.up hb0
 have ho2':=ho2.up hb0
 have hN0:∀ b,(N b∨b=w.heap.size+1+1+1)→b<((((w.alloc (.cells #[.int .i64 s.kind,.slice L s.labels.length lc,.slice A s.args.length ac] 27)).alloc (.cells #[.int .i64 o1.kind,.string o1.name,.int .i64 o1.num,.slice B1 o1.args.length bc1] 30)).alloc (.cells #[.int .i64 o2.kind,.string o2.name,.int .i64 o2.num,.slice B2 o2.args.length bc2] 30)).alloc (.cells #[.int .i64 0,.slice none 0 0,.slice none 0 0,.int .i64 0] 83)).heap.size:=fun b hb=>hb.elim (fun hb=>Nat.lt_of_lt_of_le (hN b hb) hb0.size) (fun e=>e ▸ zz0.lt)
 have HU0:=Lib.hid (hU.below hb0)
 have HJ0:=Lib.hid (hJ.below hb0)
 obtain ⟨hug,huc,ua,rfl⟩:=hU
 obtain ⟨r1,hr1⟩:∃ x,x=typeO o1 s:=⟨_,rfl⟩
 have HC1:=Lib.hid (h1 (fun b=>N b∨b=w.heap.size+1+1+1) _ r1 s _ _ _ hN0 HU0.out HJ0.out hv0 ho1' hval f1 z1 hr1)
 have HR:=Lib.hid hr
 have hsv:=szTy_valid hval
 have HN0:=Lib.hid hN0
 have HVAL:=Lib.hid hval
 have HV0:=Lib.hid hv0
 have HR1:=Lib.hid hr1
 clear hN0 hval hv0 hv hN hr hr1 hJ hug huc ho1 ho2 ho1' f1 z1 h1
 go_enter Tryz.func182,Tryz.ntmps182
 go_wp2_with fail
 generalize (((w.alloc (.cells #[.int .i64 s.kind,.slice L s.labels.length lc,.slice A s.args.length ac] 27)).alloc (.cells #[.int .i64 o1.kind,.string o1.name,.int .i64 o1.num,.slice B1 o1.args.length bc1] 30)).alloc (.cells #[.int .i64 o2.kind,.string o2.name,.int .i64 o2.num,.slice B2 o2.args.length bc2] 30)).alloc (.cells #[.int .i64 0,.slice none 0 0,.slice none 0 0,.int .i64 0] 83)=w0 at *
 refine HC1.out.mono ?_
 rintro e w1 ⟨L1,lc1,A1,ac1,t1,k1,x1,rfl,hv1,hb1,hs1,hor⟩
 clear HC1
 have hx1:=(Below.refl w1.heap.size w1).alloc (Nat.le_refl _) (.cells #[.int .i64 t1.kind,.slice L1 t1.labels.length lc1,.slice A1 t1.args.length ac1,.int .i64 k1] 83)
 have hc1:=hb1
 have hd1:=hc1.trans (hx1.mono hc1.size)
 have hv1x:=hv1.up hx1
 have n1:Whole1 (w1.alloc (.cells #[.int .i64 t1.kind,.slice L1 t1.labels.length lc1,.slice A1 t1.args.length ac1,.int .i64 k1] 83)) w1.heap.size 83 #[.int .i64 t1.kind,.slice L1 t1.labels.length lc1,.slice A1 t1.args.length ac1,.int .i64 k1]:=Whole1.new _ _ _
 have zzx1:=zz0.below hd1 zz0.lt
 have HB1:=Lib.hid (hb0.trans (hd1.mono hb0.size))
 have HUU1:=Lib.hid (HU0.out.below hd1)
 have HJJ1:=Lib.hid (HJ0.out.below hd1)
 go_upto_region 2 with fail
 generalize (w1.alloc (.cells #[.int .i64 t1.kind,.slice L1 t1.labels.length lc1,.slice A1 t1.args.length ac1,.int .i64 k1] 83))=W1 at *
 have HN1:=Lib.hid n1
 have HD1:=Lib.hid hd1
 have HS1:=Lib.hid hs1
 have HV1:=Lib.hid hv1x
 have HZ1:=Lib.hid zzx1
 have HZ0:=Lib.hid zz0
 have HB0:=Lib.hid hb0
 have HP0:=Lib.hid p0
 have HQ0:=Lib.hid q0'
 have HO2:=Lib.hid ho2'
 clear hd1 hs1 hv1x zzx1 zz0 hb0 p0 q0 q0' ho2' hb1 hx1 hc1 hv1 n1
 rcases hor with ⟨rn,rfl⟩ | ⟨rs,rfl⟩
 ·have HRN:=Lib.hid (HR.out.trans (elseO_none (HR1.out.symm.trans rn)))
  obtain ⟨d0,d1,d2,d3⟩:=HZ1.out.c4
  obtain ⟨df0,df1,df2,df3⟩:=HZ1.out.f4
  have e0:=dC d0
  have ef0:=dF df0
  have e1:=dC d1
  have ef1:=dF df1
  have e2:=dC d2
  have ef2:=dF df2
  have e3:=dC d3
  have ef3:=dF df3
  have hu0:W1.cell? ⟨0,0,none⟩=some (.iface 246 (.pointer (some ua))):=HUU1.out.2.1
  have hud:=dC hu0
  have HF:=Lib.hid (typ_none (N:=N) (u:=(.iface 246 (.pointer (some ua)))) HB1.out HRN.out)
  have HG:=Lib.hid (fun a b c d=>typ_drew ((typ_none4 (N:=N) (u:=(.iface 246 (.pointer (some ua)))) (show w.heap.size≤w.heap.size+1+1+1 by omega) HB1.out HRN.out a b c d)))
  clear rn
  go_wp2
  go_region
  go_wp2
  first | exact bodyPost_ret (v:=.tuple #[.agg #[.int .i64 0,.slice none 0 0,.slice none 0 0,.int .i64 0],.iface 246 (.pointer (some ua))]) (by simp [results,Tryz.results182,go_sem,d0,d1,d2,d3,e0,e1,e2,e3]) rfl HF.out | exact bodyPost_ret (v:=.tuple #[.agg #[.int .i64 0,.slice none 0 0,.slice none 0 0,.int .i64 0],.iface 246 (.pointer (some ua))]) (by simp [results,Tryz.results182,go_sem,d0,d1,d2,d3,e0,e1,e2,e3]) rfl (HG.out _ _ _ _)
 ·have HRS:=Lib.hid (HR1.out.symm.trans rs)
  have HW:=Lib.hid (implIsWithin_any k1 4 W1 HJJ1.out)
  obtain ⟨r2,hr2⟩:∃ x,x=typeO o2 s:=⟨_,rfl⟩
  have HR2:=Lib.hid hr2
  clear hr2 rs
  obtain ⟨m0,m1,m2,m3⟩:=HN1.out.c4
  cases hw1:withinB k1 4
  ·rw [hw1] at HW
   have HRN:=Lib.hid (HR.out.trans (elseO_no1 HRS.out hw1))
   clear hw1
   go_wp2_with fail
   refine HW.out.mono ?_
   rintro e w3 ⟨rfl,hb3⟩
   have HU3:=Lib.hid (HUU1.out.below hb3)
   have HB3:=Lib.hid (HB1.out.trans (hb3.mono HB1.out.size))
   have HZ3:=Lib.hid (HZ1.out.below hb3 HZ1.out.lt)
   clear hb3 m0 m1 m2 m3
   obtain ⟨d0,d1,d2,d3⟩:=HZ3.out.c4
   obtain ⟨df0,df1,df2,df3⟩:=HZ3.out.f4
   have e0:=dC d0
   have ef0:=dF df0
   have e1:=dC d1
   have ef1:=dF df1
   have e2:=dC d2
   have ef2:=dF df2
   have e3:=dC d3
   have ef3:=dF df3
   have hu0:w3.cell? ⟨0,0,none⟩=some (.iface 246 (.pointer (some ua))):=HU3.out.2.1
   have hud:=dC hu0
   have HF:=Lib.hid (typ_none (N:=N) (u:=(.iface 246 (.pointer (some ua)))) HB3.out HRN.out)
   have HG:=Lib.hid (fun a b c d=>typ_drew ((typ_none4 (N:=N) (u:=(.iface 246 (.pointer (some ua)))) (show w.heap.size≤w.heap.size+1+1+1 by omega) HB3.out HRN.out a b c d)))
   go_wp2
   go_region
   go_wp2
   first | exact bodyPost_ret (v:=.tuple #[.agg #[.int .i64 0,.slice none 0 0,.slice none 0 0,.int .i64 0],.iface 246 (.pointer (some ua))]) (by simp [results,Tryz.results182,go_sem,d0,d1,d2,d3,e0,e1,e2,e3]) rfl HF.out | exact bodyPost_ret (v:=.tuple #[.agg #[.int .i64 0,.slice none 0 0,.slice none 0 0,.int .i64 0],.iface 246 (.pointer (some ua))]) (by simp [results,Tryz.results182,go_sem,d0,d1,d2,d3,e0,e1,e2,e3]) rfl (HG.out _ _ _ _)
  ·rw [hw1] at HW
   have HW1:=Lib.hid hw1
   clear hw1
   go_wp2_with fail
   refine HW.out.mono ?_
   rintro e w3 ⟨rfl,hb3⟩
   have HD3:=Lib.hid (HD1.out.trans (hb3.mono HD1.out.size))
   have HU3:=Lib.hid (HUU1.out.below hb3)
   have HJ3:=Lib.hid (HJJ1.out.below hb3)
   have HN3:=Lib.hid (HN1.out.below hb3 HN1.out.lt)
   have HV3:=Lib.hid (HV1.out.up hb3)
   have HC2:=Lib.hid (h2 (fun b=>N b∨b=w.heap.size+1+1+1) _ r2 s _ _ w3 (fun b hb=>Nat.lt_of_lt_of_le (HN0.out b hb) HD3.out.size) HU3.out HJ3.out (HV0.out.up HD3.out) (HO2.out.up HD3.out) HVAL.out f2 z2 HR2.out)
   clear hb3 m0 m1 m2 m3 HW
   obtain ⟨sp0,sp1,sp2⟩:=(HP0.out.below HD3.out HP0.out.lt).c3
   obtain ⟨qo0,qo1,qo2,qo3⟩:=(HQ0.out.below HD3.out HQ0.out.lt).c4
   go_wp2_with fail
   refine HC2.out.mono ?_
   rintro e w2 ⟨L2,lc2,A2,ac2,t2,k2,x2,rfl,hv2,hb2,hs2,hor2⟩
   have hx2:=(Below.refl w2.heap.size w2).alloc (Nat.le_refl _) (.cells #[.int .i64 t2.kind,.slice L2 t2.labels.length lc2,.slice A2 t2.args.length ac2,.int .i64 k2] 83)
   have hc2:=HD3.out.trans (hb2.mono HD3.out.size)
   have HD4:=Lib.hid (hc2.trans (hx2.mono hc2.size))
   have HV4:=Lib.hid (hv2.up hx2)
   have HV5:=Lib.hid ((HV3.out.up hb2).up hx2)
   have HN4:=Lib.hid (show Whole1 (w2.alloc (.cells #[.int .i64 t2.kind,.slice L2 t2.labels.length lc2,.slice A2 t2.args.length ac2,.int .i64 k2] 83)) w2.heap.size 83 #[.int .i64 t2.kind,.slice L2 t2.labels.length lc2,.slice A2 t2.args.length ac2,.int .i64 k2] from Whole1.new _ _ _)
   have HN5:=Lib.hid ((HN3.out.below hb2 HN3.out.lt).below hx2 (HN3.out.below hb2 HN3.out.lt).lt)
   clear sp0 sp1 sp2 qo0 qo1 qo2 qo3 HC2 hx2 hc2 hv2 hb2
   go_upto_region 5 with fail
   generalize (w2.alloc (.cells #[.int .i64 t2.kind,.slice L2 t2.labels.length lc2,.slice A2 t2.args.length ac2,.int .i64 k2] 83))=W4 at *
   have HU4:=Lib.hid (HU0.out.below HD4.out)
   have HJ4:=Lib.hid (HJ0.out.below HD4.out)
   have HB4:=Lib.hid (HB0.out.trans (HD4.out.mono HB0.out.size))
   have HZ4:=Lib.hid (HZ0.out.below HD4.out HZ0.out.lt)
   have HS2:=Lib.hid hs2
   clear hs2
   rcases hor2 with ⟨rn,rfl⟩ | ⟨rs2,rfl⟩
   ·have HRN:=Lib.hid (HR.out.trans (elseO_no2 HRS.out (HR2.out.symm.trans rn)))
    obtain ⟨d0,d1,d2,d3⟩:=HZ4.out.c4
    obtain ⟨df0,df1,df2,df3⟩:=HZ4.out.f4
    have e0:=dC d0
    have ef0:=dF df0
    have e1:=dC d1
    have ef1:=dF df1
    have e2:=dC d2
    have ef2:=dF df2
    have e3:=dC d3
    have ef3:=dF df3
    have hu0:W4.cell? ⟨0,0,none⟩=some (.iface 246 (.pointer (some ua))):=HU4.out.2.1
    have hud:=dC hu0
    have HF:=Lib.hid (typ_none (N:=N) (u:=(.iface 246 (.pointer (some ua)))) HB4.out HRN.out)
    have HG:=Lib.hid (fun a b c d=>typ_drew ((typ_none4 (N:=N) (u:=(.iface 246 (.pointer (some ua)))) (show w.heap.size≤w.heap.size+1+1+1 by omega) HB4.out HRN.out a b c d)))
    clear rn
    go_wp2
    go_region
    go_wp2
    first | exact bodyPost_ret (v:=.tuple #[.agg #[.int .i64 0,.slice none 0 0,.slice none 0 0,.int .i64 0],.iface 246 (.pointer (some ua))]) (by simp [results,Tryz.results182,go_sem,d0,d1,d2,d3,e0,e1,e2,e3]) rfl HF.out | exact bodyPost_ret (v:=.tuple #[.agg #[.int .i64 0,.slice none 0 0,.slice none 0 0,.int .i64 0],.iface 246 (.pointer (some ua))]) (by simp [results,Tryz.results182,go_sem,d0,d1,d2,d3,e0,e1,e2,e3]) rfl (HG.out _ _ _ _)
   ·have HRT:=Lib.hid (HR2.out.symm.trans rs2)
    have HW2:=Lib.hid (implIsWithin_any k2 4 W4 HJ4.out)
    clear rs2
    obtain ⟨m0,m1,m2,m3⟩:=HN4.out.c4
    cases hw2:withinB k2 4
    ·rw [hw2] at HW2
     have HRN:=Lib.hid (HR.out.trans (elseO_no3 HRS.out HRT.out hw2))
     clear hw2
     go_wp2_with fail
     refine HW2.out.mono ?_
     rintro e w5 ⟨rfl,hb5⟩
     have HU5:=Lib.hid (HU4.out.below hb5)
     have HB5:=Lib.hid (HB4.out.trans (hb5.mono HB4.out.size))
     have HZ5:=Lib.hid (HZ4.out.below hb5 HZ4.out.lt)
     clear hb5 m0 m1 m2 m3
     obtain ⟨d0,d1,d2,d3⟩:=HZ5.out.c4
     obtain ⟨df0,df1,df2,df3⟩:=HZ5.out.f4
     have e0:=dC d0
     have ef0:=dF df0
     have e1:=dC d1
     have ef1:=dF df1
     have e2:=dC d2
     have ef2:=dF df2
     have e3:=dC d3
     have ef3:=dF df3
     have hu0:w5.cell? ⟨0,0,none⟩=some (.iface 246 (.pointer (some ua))):=HU5.out.2.1
     have hud:=dC hu0
     have HF:=Lib.hid (typ_none (N:=N) (u:=(.iface 246 (.pointer (some ua)))) HB5.out HRN.out)
     have HG:=Lib.hid (fun a b c d=>typ_drew ((typ_none4 (N:=N) (u:=(.iface 246 (.pointer (some ua)))) (show w.heap.size≤w.heap.size+1+1+1 by omega) HB5.out HRN.out a b c d)))
     go_wp2
     go_region
     go_wp2
     first | exact bodyPost_ret (v:=.tuple #[.agg #[.int .i64 0,.slice none 0 0,.slice none 0 0,.int .i64 0],.iface 246 (.pointer (some ua))]) (by simp [results,Tryz.results182,go_sem,d0,d1,d2,d3,e0,e1,e2,e3]) rfl HF.out | exact bodyPost_ret (v:=.tuple #[.agg #[.int .i64 0,.slice none 0 0,.slice none 0 0,.int .i64 0],.iface 246 (.pointer (some ua))]) (by simp [results,Tryz.results182,go_sem,d0,d1,d2,d3,e0,e1,e2,e3]) rfl (HG.out _ _ _ _)
    ·rw [hw2] at HW2
     have HWW:=Lib.hid hw2
     clear hw2
     go_wp2_with fail
     refine HW2.out.mono ?_
     rintro e w5 ⟨rfl,hb5⟩
     have HU5:=Lib.hid (HU4.out.below hb5)
     have HB5:=Lib.hid (HB4.out.trans (hb5.mono HB4.out.size))
     have HZ5:=Lib.hid (HZ4.out.below hb5 HZ4.out.lt)
     have HV6:=Lib.hid (HV4.out.up hb5)
     have HV7:=Lib.hid (HV5.out.up hb5)
     have HN6:=Lib.hid (HN4.out.below hb5 HN4.out.lt)
     have HN7:=Lib.hid (HN5.out.below hb5 HN5.out.lt)
     have HE:=Lib.hid (implEqual_any t1 t2 _ _ w5 HV7.out.own HV6.out.own (by have:=size_le_sz t1;have:=HS1.out;omega))
     clear hb5 m0 m1 m2 m3
     obtain ⟨m0,m1,m2,m3⟩:=HN6.out.c4
     obtain ⟨mm0,mm1,mm2,mm3⟩:=HN7.out.c4
     cases he:eqTyB t1 t2
     ·rw [he] at HE
      have HRN:=Lib.hid (HR.out.trans (elseO_no4 HRS.out HRT.out he))
      clear he
      go_wp2_with fail
      refine HE.out.mono ?_
      rintro e w6 ⟨rfl,hb6⟩
      have HU6:=Lib.hid (HU5.out.below hb6)
      have HB6:=Lib.hid (HB5.out.trans (hb6.mono HB5.out.size))
      have HZ6:=Lib.hid (HZ5.out.below hb6 HZ5.out.lt)
      clear hb6 m0 m1 m2 m3 mm0 mm1 mm2 mm3
      obtain ⟨d0,d1,d2,d3⟩:=HZ6.out.c4
      obtain ⟨df0,df1,df2,df3⟩:=HZ6.out.f4
      have e0:=dC d0
      have ef0:=dF df0
      have e1:=dC d1
      have ef1:=dF df1
      have e2:=dC d2
      have ef2:=dF df2
      have e3:=dC d3
      have ef3:=dF df3
      have hu0:w6.cell? ⟨0,0,none⟩=some (.iface 246 (.pointer (some ua))):=HU6.out.2.1
      have hud:=dC hu0
      have HF:=Lib.hid (typ_none (N:=N) (u:=(.iface 246 (.pointer (some ua)))) HB6.out HRN.out)
      have HG:=Lib.hid (fun a b c d=>typ_drew ((typ_none4 (N:=N) (u:=(.iface 246 (.pointer (some ua)))) (show w.heap.size≤w.heap.size+1+1+1 by omega) HB6.out HRN.out a b c d)))
      go_wp2
      go_region
      go_wp2
      first | exact bodyPost_ret (v:=.tuple #[.agg #[.int .i64 0,.slice none 0 0,.slice none 0 0,.int .i64 0],.iface 246 (.pointer (some ua))]) (by simp [results,Tryz.results182,go_sem,d0,d1,d2,d3,e0,e1,e2,e3]) rfl HF.out | exact bodyPost_ret (v:=.tuple #[.agg #[.int .i64 0,.slice none 0 0,.slice none 0 0,.int .i64 0],.iface 246 (.pointer (some ua))]) (by simp [results,Tryz.results182,go_sem,d0,d1,d2,d3,e0,e1,e2,e3]) rfl (HG.out _ _ _ _)
     ·rw [he] at HE
      have HRY:=Lib.hid (HR.out.trans (elseO_yes HRS.out HRT.out HW1.out HWW.out he))
      clear he
      go_wp2_with fail
      refine HE.out.mono ?_
      rintro e w6 ⟨rfl,hb6⟩
      have HU6:=Lib.hid (HU5.out.below hb6)
      have HB6:=Lib.hid (HB5.out.trans (hb6.mono HB5.out.size))
      have HZ6:=Lib.hid (HZ5.out.below hb6 HZ5.out.lt)
      have HV8:=Lib.hid (HV7.out.up hb6)
      have HN8:=Lib.hid (HN7.out.below hb6 HN7.out.lt)
      clear hb6 m0 m1 m2 m3 mm0 mm1 mm2 mm3
      have HF:=Lib.hid (fun a b c d=>typ_fin (r:=r) (u:=(.iface 246 (.pointer (some ua)))) (kd:=4) (show w.heap.size≤w.heap.size+1+1+1 by omega) HB6.out HV8.out HS1.out (.inr ⟨HRY.out,rfl⟩) a b c d)
      obtain ⟨d0,d1,d2,d3⟩:=HZ6.out.c4
      obtain ⟨df0,df1,df2,df3⟩:=HZ6.out.f4
      obtain ⟨m0,m1,m2,m3⟩:=HN8.out.c4
      go_wp2
      exact bodyPost_ret (v:=.tuple #[.agg #[.int .i64 t1.kind,.slice L1 t1.labels.length lc1,.slice A1 t1.args.length ac1,.int .i64 4],.nilIface]) (by simp [results,Tryz.results182,go_sem,d0,d1,d2,d3]) rfl (HF.out _ _ _ _)
end
end Go.Proofs.YtfnblkcmcfofoaaGreatDoor
