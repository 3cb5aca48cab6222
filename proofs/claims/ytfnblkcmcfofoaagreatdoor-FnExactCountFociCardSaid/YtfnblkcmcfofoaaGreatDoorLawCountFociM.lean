/- The law CountFoci. -/
import Derived.Test.YtfnblkcmcfofoaaGreatDoorRows
import Derived.Test.YtfnblkcmcfofoaaGreatDoorLawFoci_1
import Derived.Test.YtfnblkcmcfofoaaGreatDoorCards
import Derived.Test.YtfnblkcmcfofoaaGreatDoorTie
import Derived.Test.YtfnblkcmcfofoaaGreatDoorLawFoci_2
import Derived.Test.YtfnblkcmcfofoaaGreatDoorLawFoci_3
import Derived.Test.YtfnblkcmcfofoaaGreatDoorLawFoci_4
import Derived.Test.YtfnblkcmcfofoaaGreatDoorLawFoci_5
import Derived.Test.YtfnblkcmcfofoaaGreatDoorLawFoci_6
import Derived.Test.YtfnblkcmcfofoaaGreatDoorLawFoci_47
import Derived.Test.YtfnblkcmcfofoaaGreatDoorLawFoci_52
import Derived.Test.YtfnblkcmcfofoaaGreatDoorLawFoci_53
import Derived.SevenTiedAt
import Derived.Deep.DeepCutAuto
import Derived.Deep.CutRange
import Derived.Deep.DrawnRows
import Derived.Deep.RegionHeld3

namespace Go.Proofs.YtfnblkcmcfofoaaGreatDoor.lawCountFoci
open Go.ChangeShapes Go.WideShapes Go.ChangeAt Go.RowKit
open Go.ChangeMaps (open_string shut_string)
theorem leftOf_le2 (left:Int) (n:Nat) (h:0≤left):leftOf left n≤left:=by unfold leftOf;split<;>omega
set_option maxHeartbeats 40000000 in
set_option maxRecDepth 100000 in
theorem walk (t:Ty) (t':Ot) (t'':Va) (va vb vc:Value) (w:World) {u:Value} (ha0:TyAt w w.heap.size va t) (hd0:OtAt w w.heap.size vb t') (hv0:VaAt w w.heap.size vc t'') (hU0:UnfitAt w u) (hJ0:JoinsAt w) (hF0:FormsAt w) (hnum:numsB t''=true):
  Calls Tryz.prog 6 #[va,vb,vc] w (TrueBelow w):=by
 obtain ⟨L0,l0,A0,a0,rfl,_⟩:=ha0.open
 obtain ⟨A1,a1,rfl,_⟩:=hd0.open
 obtain ⟨L2,l2,A2,a2,rfl,_⟩:=hv0.open
 obtain ⟨hb1,bp1,bq1,br1,hz1⟩:=boxes3 w 57 60 63 #[.int .i64 t.kind,.slice L0 t.labels.length l0,.slice A0 t.args.length a0] #[.int .i64 t'.kind,.string t'.name,.int .i64 t'.num,.slice A1 t'.args.length a1] #[.int .i64 t''.kind,.int .i64 t''.num,.string t''.name,.slice L2 t''.labels.length l2,.slice A2 t''.args.length a2]
 go_enter Tryz.func6,Tryz.ntmps6
 go_wp2_with fail
 generalize ((w.alloc (.cells #[.int .i64 t.kind,.slice L0 t.labels.length l0,.slice A0 t.args.length a0] 57)).alloc (.cells #[.int .i64 t'.kind,.string t'.name,.int .i64 t'.num,.slice A1 t'.args.length a1] 60)).alloc (.cells #[.int .i64 t''.kind,.int .i64 t''.num,.string t''.name,.slice L2 t''.labels.length l2,.slice A2 t''.args.length a2] 63)=w1 at *
 have zz1:w.heap.size+1+1<w1.heap.size:=by omega
 clear hz1
 have cb1:=hb1
 have sz1:=hb1.size
 refine (szTy_any t _ 1048576 w1 ((ha0.lift cb1).more cb1.size) (by omega) (by omega)).mono ?_
 rintro e w2 ⟨rfl,hb2⟩
 have cb2:=cb1.trans (hb2.mono cb1.size)
 have sz2:=hb2.size
 have bp2:=bp1.below hb2 bp1.lt
 have bq2:=bq1.below hb2 bq1.lt
 have br2:=br1.below hb2 br1.lt
 clear bp1 bq1 br1
 by_cases hneg:(1048576:Int) - szTy t<0
 ·rw [show leftOf 1048576 (szTy t)=-1 from by unfold leftOf;rw [if_pos hneg]]
  go_wp2
  go_ret
  exact ⟨rfl,cb2⟩
 ·have hsz:szTy t≤1048576:=by omega
  have hq2:¬ leftOf 1048576 (szTy t)<0:=by unfold leftOf;rw [if_neg hneg];exact hneg
  have hl2:=leftOf_le2 1048576 (szTy t) (by omega)
  generalize leftOf 1048576 (szTy t)=lf0 at *
  obtain ⟨cq0,cq1,cq2,cq3⟩:=bq2.c4
  go_wp2_with fail
  clear cq0 cq1 cq2 cq3
  refine (szOt_any t' _ lf0 w2 ((hd0.lift cb2).more cb2.size) (by omega) (by omega)).mono ?_
  rintro e w3 ⟨rfl,hb3⟩
  have cb3:=cb2.trans (hb3.mono cb2.size)
  have sz3:=hb3.size
  have bp3:=bp2.below hb3 bp2.lt
  have bq3:=bq2.below hb3 bq2.lt
  have br3:=br2.below hb3 br2.lt
  clear bp2 bq2 br2
  by_cases hneg':(lf0:Int) - szOt t'<0
  ·rw [show leftOf lf0 (szOt t')=-1 from by unfold leftOf;rw [if_pos hneg']]
   go_wp2
   go_ret
   exact ⟨rfl,cb3⟩
  ·have hsz':szOt t'≤1048576:=by omega
   have hq3:¬ leftOf lf0 (szOt t')<0:=by unfold leftOf;rw [if_neg hneg'];exact hneg'
   have hl3:=leftOf_le2 lf0 (szOt t') (by omega)
   generalize leftOf lf0 (szOt t')=lf1 at *
   obtain ⟨cr0,cr1,cr2,cr3,cr4⟩:=br3.c5
   go_wp2_with fail
   clear cr0 cr1 cr2 cr3 cr4
   refine (szVa_any t'' _ lf1 w3 ((hv0.lift cb3).more cb3.size) (by omega) (by omega)).mono ?_
   rintro e w4 ⟨rfl,hb4⟩
   have cb4:=cb3.trans (hb4.mono cb3.size)
   have sz4:=hb4.size
   have bp4:=bp3.below hb4 bp3.lt
   have bq4:=bq3.below hb4 bq3.lt
   have br4:=br3.below hb4 br3.lt
   clear bp3 bq3 br3
   by_cases hneg'':(lf1:Int) - szVa t''<0
   ·rw [show leftOf lf1 (szVa t'')=-1 from by unfold leftOf;rw [if_pos hneg'']]
    go_wp2
    go_ret
    exact ⟨rfl,cb4⟩
   ·have hsz'':szVa t''≤1048576:=by omega
    have hq4:¬ leftOf lf1 (szVa t'')<0:=by unfold leftOf;rw [if_neg hneg''];exact hneg''
    have hl4:=leftOf_le2 lf1 (szVa t'') (by omega)
    generalize leftOf lf1 (szVa t'')=lf2 at *
    have HT:=Lib.hid (fun W (h:TyAt W W.heap.size (.agg #[.int .i64 t.kind,.slice L0 t.labels.length l0,.slice A0 t.args.length a0]) t)=>toType_any t _ W h hsz)
    have HO:=Lib.hid (fun W (h:OtAt W W.heap.size (.agg #[.int .i64 t'.kind,.string t'.name,.int .i64 t'.num,.slice A1 t'.args.length a1]) t')=>toOptic_any t' _ W h hsz')
    have HV:=Lib.hid (fun W (h:VaAt W W.heap.size (.agg #[.int .i64 t''.kind,.int .i64 t''.num,.string t''.name,.slice L2 t''.labels.length l2,.slice A2 t''.args.length a2]) t'')=>toValue_any t'' _ W h hsz'')
    have HEt:=Lib.hid (fun V V' W h h'=>eqType_any t V V' W h h')
    have HEo:=Lib.hid (fun V V' W h h'=>eqOptic_any t' V V' W h h')
    have HEv:=Lib.hid (fun V V' W h h'=>eqValue_any t'' V V' W h h')
    have HS:=Lib.hid (fun V V' V'' W h h' h''=>specCount_any t t' t'' V V' V'' W h h' h'' hsz hsz' hsz'')
    have HI:=Lib.hid (fun X X' X'' W h h' h'' hU hJ hF=>implCount_any (u:=u) t t' t'' X X' X'' W h h' h'' hU hJ hF hnum hsz hsz' hsz'')
    have hse:cntspec (fociB t t' t'')=cntimpl (fociB t t' t''):=by cases fociB t t' t''<;>rfl
    rw [hse] at HS
    generalize cntimpl (fociB t t' t'')=x at *
    clear hse
    have hxx:(x != x)=false:=by simp
    obtain ⟨cp0,cp1,cp2⟩:=bp4.c3
    obtain ⟨cq0,cq1,cq2,cq3⟩:=bq4.c4
    obtain ⟨cr0,cr1,cr2,cr3,cr4⟩:=br4.c5
    have hlp:=bp4.lt
    have hlq:=bq4.lt
    have hlr:=br4.lt
    have hD:=(Below.refl w4.heap.size w4).drew
    go_upto_region 11 with fail
    go_cut [8] (fun r0 wx=>r0=.int .i64 x∧Below w4.heap.size w4 wx)
    case first=>
     have t_0:=dC cp0
     have t_1:=dC cp1
     have t_2:=dC cp2
     have t_3:=dC cq0
     have t_4:=dC cq1
     have t_5:=dC cq2
     have t_6:=dC cq3
     have t_7:=dC cr0
     have t_8:=dC cr1
     have t_9:=dC cr2
     have t_10:=dC cr3
     have t_11:=dC cr4
     go_region_held3 (fun x=>x.cell? ⟨w.heap.size,0,none⟩=some (.int .i64 t.kind)∧x.cell? ⟨w.heap.size,1,none⟩=some (.slice L0 t.labels.length l0)∧x.cell? ⟨w.heap.size,2,none⟩=some (.slice A0 t.args.length a0)∧x.cell? ⟨w.heap.size+1,0,none⟩=some (.int .i64 t'.kind)∧x.cell? ⟨w.heap.size+1,1,none⟩=some (.string t'.name)∧x.cell? ⟨w.heap.size+1,2,none⟩=some (.int .i64 t'.num)∧x.cell? ⟨w.heap.size+1,3,none⟩=some (.slice A1 t'.args.length a1)∧x.cell? ⟨w.heap.size+1+1,0,none⟩=some (.int .i64 t''.kind)∧x.cell? ⟨w.heap.size+1+1,1,none⟩=some (.int .i64 t''.num)∧x.cell? ⟨w.heap.size+1+1,2,none⟩=some (.string t''.name)∧x.cell? ⟨w.heap.size+1+1,3,none⟩=some (.slice L2 t''.labels.length l2)∧x.cell? ⟨w.heap.size+1+1,4,none⟩=some (.slice A2 t''.args.length a2)∧Below w4.heap.size w4 x) ((first | (with_reducible exact ⟨t_0,t_1,t_2,t_3,t_4,t_5,t_6,t_7,t_8,t_9,t_10,t_11,hD⟩) | (with_reducible exact ⟨s0_0_0,s0_0_1,s0_0_2,s0_0_3,s0_0_4,s0_0_5,s0_0_6,s0_0_7,s0_0_8,s0_0_9,s0_0_10,s0_0_11,hP0_0⟩) | (with_reducible exact ⟨s0_1_0,s0_1_1,s0_1_2,s0_1_3,s0_1_4,s0_1_5,s0_1_6,s0_1_7,s0_1_8,s0_1_9,s0_1_10,s0_1_11,hP0_1⟩) | (with_reducible exact ⟨s0_2_0,s0_2_1,s0_2_2,s0_2_3,s0_2_4,s0_2_5,s0_2_6,s0_2_7,s0_2_8,s0_2_9,s0_2_10,s0_2_11,hP0_2⟩) | (with_reducible exact ⟨s0_3_0,s0_3_1,s0_3_2,s0_3_3,s0_3_4,s0_3_5,s0_3_6,s0_3_7,s0_3_8,s0_3_9,s0_3_10,s0_3_11,hP0_3⟩)))
      (first | (go_at_call 35;(with_reducible refine (HT.out _ (((ha0.lift cb4).more cb4.size).up hD)).mono ?_);rintro e wP0_0 ⟨v1,rfl,hv1,hN0_0⟩;have hP0_0:=hD.trans (hN0_0.mono hD.size);have s0_0_0:=(kC hP0_0 cp0 hlp);have s0_0_1:=(kC hP0_0 cp1 hlp);have s0_0_2:=(kC hP0_0 cp2 hlp);have s0_0_3:=(kC hP0_0 cq0 hlq);have s0_0_4:=(kC hP0_0 cq1 hlq);have s0_0_5:=(kC hP0_0 cq2 hlq);have s0_0_6:=(kC hP0_0 cq3 hlq);have s0_0_7:=(kC hP0_0 cr0 hlr);have s0_0_8:=(kC hP0_0 cr1 hlr);have s0_0_9:=(kC hP0_0 cr2 hlr);have s0_0_10:=(kC hP0_0 cr3 hlr);have s0_0_11:=(kC hP0_0 cr4 hlr)) | (go_at_call 36;(with_reducible refine (HO.out _ (((hd0.lift cb4).more cb4.size).up hP0_0)).mono ?_);rintro e wP0_1 ⟨v2,rfl,hv2,hN0_1⟩;have hP0_1:=hP0_0.trans (hN0_1.mono hP0_0.size);have s0_1_0:=(kC hP0_1 cp0 hlp);have s0_1_1:=(kC hP0_1 cp1 hlp);have s0_1_2:=(kC hP0_1 cp2 hlp);have s0_1_3:=(kC hP0_1 cq0 hlq);have s0_1_4:=(kC hP0_1 cq1 hlq);have s0_1_5:=(kC hP0_1 cq2 hlq);have s0_1_6:=(kC hP0_1 cq3 hlq);have s0_1_7:=(kC hP0_1 cr0 hlr);have s0_1_8:=(kC hP0_1 cr1 hlr);have s0_1_9:=(kC hP0_1 cr2 hlr);have s0_1_10:=(kC hP0_1 cr3 hlr);have s0_1_11:=(kC hP0_1 cr4 hlr)) | (go_at_call 37;(with_reducible refine (HV.out _ (((hv0.lift cb4).more cb4.size).up hP0_1)).mono ?_);rintro e wP0_2 ⟨v3,rfl,hv3,hN0_2⟩;have hP0_2:=hP0_1.trans (hN0_2.mono hP0_1.size);have s0_2_0:=(kC hP0_2 cp0 hlp);have s0_2_1:=(kC hP0_2 cp1 hlp);have s0_2_2:=(kC hP0_2 cp2 hlp);have s0_2_3:=(kC hP0_2 cq0 hlq);have s0_2_4:=(kC hP0_2 cq1 hlq);have s0_2_5:=(kC hP0_2 cq2 hlq);have s0_2_6:=(kC hP0_2 cq3 hlq);have s0_2_7:=(kC hP0_2 cr0 hlr);have s0_2_8:=(kC hP0_2 cr1 hlr);have s0_2_9:=(kC hP0_2 cr2 hlr);have s0_2_10:=(kC hP0_2 cr3 hlr);have s0_2_11:=(kC hP0_2 cr4 hlr)) | (go_at_call 27;(with_reducible refine (HS.out v1 v2 v3 _ (hv1.here.up (hN0_1.trans (hN0_2.mono hN0_1.size))) (hv2.here.up hN0_2) hv3.here).mono ?_);rintro e wP0_3 ⟨rfl,hN0_3⟩;have hP0_3:=hP0_2.trans (hN0_3.mono hP0_2.size);have s0_3_0:=(kC hP0_3 cp0 hlp);have s0_3_1:=(kC hP0_3 cp1 hlp);have s0_3_2:=(kC hP0_3 cp2 hlp);have s0_3_3:=(kC hP0_3 cq0 hlq);have s0_3_4:=(kC hP0_3 cq1 hlq);have s0_3_5:=(kC hP0_3 cq2 hlq);have s0_3_6:=(kC hP0_3 cq3 hlq);have s0_3_7:=(kC hP0_3 cr0 hlr);have s0_3_8:=(kC hP0_3 cr1 hlr);have s0_3_9:=(kC hP0_3 cr2 hlr);have s0_3_10:=(kC hP0_3 cr3 hlr);have s0_3_11:=(kC hP0_3 cr4 hlr)))
     all_goals go_wp2
     all_goals go_meet
     all_goals first | exact ⟨rfl,hP0_3⟩
    case rest=>
     obtain ⟨rfl,hb5⟩:=hcut
     have hw5:wc=wc:=rfl
     clear hw5
     clear hD
     generalize wc=w5 at *
     clear cp0 cp1 cp2 cq0 cq1 cq2 cq3 cr0 cr1 cr2 cr3 cr4
     have cb5:=cb4.trans (hb5.mono cb4.size)
     have sz5:=hb5.size
     have bp5:=bp4.below hb5 bp4.lt
     have bq5:=bq4.below hb5 bq4.lt
     have br5:=br4.below hb5 br4.lt
     clear bp4 bq4 br4
     obtain ⟨cp0,cp1,cp2⟩:=bp5.c3
     go_wp2_with fail
     clear cp0 cp1 cp2
     refine (HT.out w5 ((ha0.lift cb5).more cb5.size)).mono ?_
     rintro e w6 ⟨u3,rfl,xI6,hb6⟩
     have cb6:=cb5.trans (hb6.mono cb5.size)
     have sz6:=hb6.size
     have bp6:=bp5.below hb6 bp5.lt
     have bq6:=bq5.below hb6 bq5.lt
     have br6:=br5.below hb6 br5.lt
     clear bp5 bq5 br5
     obtain ⟨L3,l3,A3,a3,_,rfl,_⟩:=xI6.open
     have xO6:=OwnT.of xI6
     obtain ⟨hb7,bX7,hz7⟩:=boxes1 w6 27 #[.int .i64 t.kind,.slice L3 t.labels.length l3,.slice A3 t.args.length a3]
     have dq:=bq6.below hb7 bq6.lt
     obtain ⟨cq0,cq1,cq2,cq3⟩:=dq.c4
     go_wp2_with fail
     clear dq cq0 cq1 cq2 cq3
     generalize w6.alloc (.cells #[.int .i64 t.kind,.slice L3 t.labels.length l3,.slice A3 t.args.length a3] 27)=w7 at *
     have zz7:w6.heap.size<w7.heap.size:=by omega
     clear hz7
     have cb7:=cb6.trans (hb7.mono cb6.size)
     have sz7:=hb7.size
     have bp7:=bp6.below hb7 bp6.lt
     have bq7:=bq6.below hb7 bq6.lt
     have br7:=br6.below hb7 br6.lt
     have xI7:=xI6.keep (fun q _ hq=>hb7.block q hq)
     have xO7:=xO6.up hb7
     clear bp6 bq6 br6 xI6 xO6
     refine (HO.out w7 ((hd0.lift cb7).more cb7.size)).mono ?_
     rintro e w8 ⟨u4,rfl,yI8,hb8⟩
     have cb8:=cb7.trans (hb8.mono cb7.size)
     have sz8:=hb8.size
     have bp8:=bp7.below hb8 bp7.lt
     have bq8:=bq7.below hb8 bq7.lt
     have br8:=br7.below hb8 br7.lt
     have xI8:=xI7.keep (fun q _ hq=>hb8.block q hq)
     have xO8:=xO7.up hb8
     have bX8:=bX7.below hb8 bX7.lt
     clear bp7 bq7 br7 xI7 xO7 bX7
     obtain ⟨A4,a4,rfl,_⟩:=yI8.open
     have yO8:=OwnO.of yI8
     obtain ⟨hb9,bY9,hz9⟩:=boxes1 w8 30 #[.int .i64 t'.kind,.string t'.name,.int .i64 t'.num,.slice A4 t'.args.length a4]
     have dr:=br8.below hb9 br8.lt
     obtain ⟨cr0,cr1,cr2,cr3,cr4⟩:=dr.c5
     go_wp2_with fail
     clear dr cr0 cr1 cr2 cr3 cr4
     generalize w8.alloc (.cells #[.int .i64 t'.kind,.string t'.name,.int .i64 t'.num,.slice A4 t'.args.length a4] 30)=w9 at *
     have zz9:w8.heap.size<w9.heap.size:=by omega
     clear hz9
     have cb9:=cb8.trans (hb9.mono cb8.size)
     have sz9:=hb9.size
     have bp9:=bp8.below hb9 bp8.lt
     have bq9:=bq8.below hb9 bq8.lt
     have br9:=br8.below hb9 br8.lt
     have xI9:=xI8.keep (fun q _ hq=>hb9.block q hq)
     have xO9:=xO8.up hb9
     have bX9:=bX8.below hb9 bX8.lt
     have yI9:=yI8.keep (fun q _ hq=>hb9.block q hq)
     have yO9:=yO8.up hb9
     clear bp8 bq8 br8 xI8 xO8 bX8 yI8 yO8
     refine (HV.out w9 ((hv0.lift cb9).more cb9.size)).mono ?_
     rintro e w10 ⟨u5,rfl,zI10,hb10⟩
     have cb10:=cb9.trans (hb10.mono cb9.size)
     have sz10:=hb10.size
     have bp10:=bp9.below hb10 bp9.lt
     have bq10:=bq9.below hb10 bq9.lt
     have br10:=br9.below hb10 br9.lt
     have xI10:=xI9.keep (fun q _ hq=>hb10.block q hq)
     have xO10:=xO9.up hb10
     have bX10:=bX9.below hb10 bX9.lt
     have yI10:=yI9.keep (fun q _ hq=>hb10.block q hq)
     have yO10:=yO9.up hb10
     have bY10:=bY9.below hb10 bY9.lt
     clear bp9 bq9 br9 xI9 xO9 bX9 yI9 yO9 bY9
     obtain ⟨L5,l5,A5,a5,_,rfl,_⟩:=zI10.open
     have zO10:=OwnV.of zI10
     obtain ⟨hb11,bZ11,hz11⟩:=boxes1 w10 41 #[.int .i64 t''.kind,.int .i64 t''.num,.string t''.name,.slice L5 t''.labels.length l5,.slice A5 t''.args.length a5]
     have dX:=bX10.below hb11 bX10.lt
     obtain ⟨cX0,cX1,cX2⟩:=dX.c3
     have dY:=bY10.below hb11 bY10.lt
     obtain ⟨cY0,cY1,cY2,cY3⟩:=dY.c4
     go_wp2_with fail
     clear dX cX0 cX1 cX2
     clear dY cY0 cY1 cY2 cY3
     generalize w10.alloc (.cells #[.int .i64 t''.kind,.int .i64 t''.num,.string t''.name,.slice L5 t''.labels.length l5,.slice A5 t''.args.length a5] 41)=w11 at *
     have zz11:w10.heap.size<w11.heap.size:=by omega
     clear hz11
     have cb11:=cb10.trans (hb11.mono cb10.size)
     have sz11:=hb11.size
     have bp11:=bp10.below hb11 bp10.lt
     have bq11:=bq10.below hb11 bq10.lt
     have br11:=br10.below hb11 br10.lt
     have xI11:=xI10.keep (fun q _ hq=>hb11.block q hq)
     have xO11:=xO10.up hb11
     have bX11:=bX10.below hb11 bX10.lt
     have yI11:=yI10.keep (fun q _ hq=>hb11.block q hq)
     have yO11:=yO10.up hb11
     have bY11:=bY10.below hb11 bY10.lt
     have zI11:=zI10.keep (fun q _ hq=>hb11.block q hq)
     have zO11:=zO10.up hb11
     clear bp10 bq10 br10 xI10 xO10 bX10 yI10 yO10 bY10 zI10 zO10
     refine (HI.out _ _ _ w11 xO11 yO11 zO11 (hU0.below cb11) (hJ0.below cb11) (hF0.below cb11)).mono ?_
     rintro e w12 ⟨rfl,hb12⟩
     have cb12:=cb11.trans (hb12.mono cb11.size)
     have sz12:=hb12.size
     have bp12:=bp11.below hb12 bp11.lt
     have bq12:=bq11.below hb12 bq11.lt
     have br12:=br11.below hb12 br11.lt
     have xI12:=xI11.keep (fun q _ hq=>hb12.block q hq)
     have xO12:=xO11.up hb12
     have bX12:=bX11.below hb12 bX11.lt
     have yI12:=yI11.keep (fun q _ hq=>hb12.block q hq)
     have yO12:=yO11.up hb12
     have bY12:=bY11.below hb12 bY11.lt
     have zI12:=zI11.keep (fun q _ hq=>hb12.block q hq)
     have zO12:=zO11.up hb12
     have bZ12:=bZ11.below hb12 bZ11.lt
     clear bp11 bq11 br11 xI11 xO11 bX11 yI11 yO11 bY11 zI11 zO11 bZ11
     obtain ⟨cX0,cX1,cX2⟩:=bX12.c3
     obtain ⟨cp0,cp1,cp2⟩:=bp12.c3
     have hlX:=bX12.lt
     have hlp:=bp12.lt
     go_wp2_with fail
     go_region_held3 (fun x=>x.cell? ⟨w6.heap.size,0,none⟩=some (.int .i64 t.kind)∧x.cell? ⟨w6.heap.size,1,none⟩=some (.slice L3 t.labels.length l3)∧x.cell? ⟨w6.heap.size,2,none⟩=some (.slice A3 t.args.length a3)∧x.cell? ⟨w.heap.size,0,none⟩=some (.int .i64 t.kind)∧x.cell? ⟨w.heap.size,1,none⟩=some (.slice L0 t.labels.length l0)∧x.cell? ⟨w.heap.size,2,none⟩=some (.slice A0 t.args.length a0)∧Below w12.heap.size w12 x) ((first | exact ⟨cX0,cX1,cX2,cp0,cp1,cp2,(Below.refl _ _).drew⟩ | exact ⟨r0_0,r0_1,r0_2,r0_3,r0_4,r0_5,hR0⟩ | exact ⟨r1_0,r1_1,r1_2,r1_3,r1_4,r1_5,hb13⟩))
      (first | (go_at_call 35;refine (HT.out _ (((ha0.lift cb12).more cb12.size).up (Below.refl w12.heap.size w12).drew)).mono ?_;rintro e wR0 ⟨v1,rfl,hv1,hN0⟩;have hR0:=(Below.refl w12.heap.size w12).drew.trans (hN0.mono (Below.refl w12.heap.size w12).drew.size);have r0_0:=(kC hR0 cX0 hlX);have r0_1:=(kC hR0 cX1 hlX);have r0_2:=(kC hR0 cX2 hlX);have r0_3:=(kC hR0 cp0 hlp);have r0_4:=(kC hR0 cp1 hlp);have r0_5:=(kC hR0 cp2 hlp)) | (go_at_call 39;refine (HEt.out _ v1 _ (xI12.here.up hR0) hv1.here).mono ?_;rintro e w13 ⟨rfl,hN1⟩;have hb13:=hR0.trans (hN1.mono hR0.size);have r1_0:=(kC hb13 cX0 hlX);have r1_1:=(kC hb13 cX1 hlX);have r1_2:=(kC hb13 cX2 hlX);have r1_3:=(kC hb13 cp0 hlp);have r1_4:=(kC hb13 cp1 hlp);have r1_5:=(kC hb13 cp2 hlp)))
     clear cX0 cX1 cX2 cp0 cp1 cp2
     have cb13:=cb12.trans (hb13.mono cb12.size)
     have sz13:=hb13.size
     have bp13:=bp12.below hb13 bp12.lt
     have bq13:=bq12.below hb13 bq12.lt
     have br13:=br12.below hb13 br12.lt
     have xI13:=xI12.keep (fun q _ hq=>hb13.block q hq)
     have xO13:=xO12.up hb13
     have bX13:=bX12.below hb13 bX12.lt
     have yI13:=yI12.keep (fun q _ hq=>hb13.block q hq)
     have yO13:=yO12.up hb13
     have bY13:=bY12.below hb13 bY12.lt
     have zI13:=zI12.keep (fun q _ hq=>hb13.block q hq)
     have zO13:=zO12.up hb13
     have bZ13:=bZ12.below hb13 bZ12.lt
     clear bp12 bq12 br12 xI12 xO12 bX12 yI12 yO12 bY12 zI12 zO12 bZ12
     clear hv1
     obtain ⟨cY0,cY1,cY2,cY3⟩:=bY13.c4
     obtain ⟨cq0,cq1,cq2,cq3⟩:=bq13.c4
     have hlY:=bY13.lt
     have hlq:=bq13.lt
     go_wp2_with fail
     go_region_held3 (fun x=>x.cell? ⟨w8.heap.size,0,none⟩=some (.int .i64 t'.kind)∧x.cell? ⟨w8.heap.size,1,none⟩=some (.string t'.name)∧x.cell? ⟨w8.heap.size,2,none⟩=some (.int .i64 t'.num)∧x.cell? ⟨w8.heap.size,3,none⟩=some (.slice A4 t'.args.length a4)∧x.cell? ⟨w.heap.size+1,0,none⟩=some (.int .i64 t'.kind)∧x.cell? ⟨w.heap.size+1,1,none⟩=some (.string t'.name)∧x.cell? ⟨w.heap.size+1,2,none⟩=some (.int .i64 t'.num)∧x.cell? ⟨w.heap.size+1,3,none⟩=some (.slice A1 t'.args.length a1)∧Below w13.heap.size w13 x) ((first | exact ⟨cY0,cY1,cY2,cY3,cq0,cq1,cq2,cq3,(Below.refl _ _).drew⟩ | exact ⟨r0_0,r0_1,r0_2,r0_3,r0_4,r0_5,r0_6,r0_7,hR0⟩ | exact ⟨r1_0,r1_1,r1_2,r1_3,r1_4,r1_5,r1_6,r1_7,hb14⟩))
      (first | (go_at_call 36;refine (HO.out _ (((hd0.lift cb13).more cb13.size).up (Below.refl w13.heap.size w13).drew)).mono ?_;rintro e wR0 ⟨v1,rfl,hv1,hN0⟩;have hR0:=(Below.refl w13.heap.size w13).drew.trans (hN0.mono (Below.refl w13.heap.size w13).drew.size);have r0_0:=(kC hR0 cY0 hlY);have r0_1:=(kC hR0 cY1 hlY);have r0_2:=(kC hR0 cY2 hlY);have r0_3:=(kC hR0 cY3 hlY);have r0_4:=(kC hR0 cq0 hlq);have r0_5:=(kC hR0 cq1 hlq);have r0_6:=(kC hR0 cq2 hlq);have r0_7:=(kC hR0 cq3 hlq)) | (go_at_call 40;refine (HEo.out _ v1 _ (yI13.here.up hR0) hv1.here).mono ?_;rintro e w14 ⟨rfl,hN1⟩;have hb14:=hR0.trans (hN1.mono hR0.size);have r1_0:=(kC hb14 cY0 hlY);have r1_1:=(kC hb14 cY1 hlY);have r1_2:=(kC hb14 cY2 hlY);have r1_3:=(kC hb14 cY3 hlY);have r1_4:=(kC hb14 cq0 hlq);have r1_5:=(kC hb14 cq1 hlq);have r1_6:=(kC hb14 cq2 hlq);have r1_7:=(kC hb14 cq3 hlq)))
     clear cY0 cY1 cY2 cY3 cq0 cq1 cq2 cq3
     have cb14:=cb13.trans (hb14.mono cb13.size)
     have sz14:=hb14.size
     have bp14:=bp13.below hb14 bp13.lt
     have bq14:=bq13.below hb14 bq13.lt
     have br14:=br13.below hb14 br13.lt
     have xI14:=xI13.keep (fun q _ hq=>hb14.block q hq)
     have xO14:=xO13.up hb14
     have bX14:=bX13.below hb14 bX13.lt
     have yI14:=yI13.keep (fun q _ hq=>hb14.block q hq)
     have yO14:=yO13.up hb14
     have bY14:=bY13.below hb14 bY13.lt
     have zI14:=zI13.keep (fun q _ hq=>hb14.block q hq)
     have zO14:=zO13.up hb14
     have bZ14:=bZ13.below hb14 bZ13.lt
     clear bp13 bq13 br13 xI13 xO13 bX13 yI13 yO13 bY13 zI13 zO13 bZ13
     clear hv1
     obtain ⟨cZ0,cZ1,cZ2,cZ3,cZ4⟩:=bZ14.c5
     obtain ⟨cr0,cr1,cr2,cr3,cr4⟩:=br14.c5
     have hlZ:=bZ14.lt
     have hlr:=br14.lt
     go_wp2_with fail
     go_region_held3 (fun x=>x.cell? ⟨w10.heap.size,0,none⟩=some (.int .i64 t''.kind)∧x.cell? ⟨w10.heap.size,1,none⟩=some (.int .i64 t''.num)∧x.cell? ⟨w10.heap.size,2,none⟩=some (.string t''.name)∧x.cell? ⟨w10.heap.size,3,none⟩=some (.slice L5 t''.labels.length l5)∧x.cell? ⟨w10.heap.size,4,none⟩=some (.slice A5 t''.args.length a5)∧x.cell? ⟨w.heap.size+1+1,0,none⟩=some (.int .i64 t''.kind)∧x.cell? ⟨w.heap.size+1+1,1,none⟩=some (.int .i64 t''.num)∧x.cell? ⟨w.heap.size+1+1,2,none⟩=some (.string t''.name)∧x.cell? ⟨w.heap.size+1+1,3,none⟩=some (.slice L2 t''.labels.length l2)∧x.cell? ⟨w.heap.size+1+1,4,none⟩=some (.slice A2 t''.args.length a2)∧Below w14.heap.size w14 x) ((first | exact ⟨cZ0,cZ1,cZ2,cZ3,cZ4,cr0,cr1,cr2,cr3,cr4,(Below.refl _ _).drew⟩ | exact ⟨r0_0,r0_1,r0_2,r0_3,r0_4,r0_5,r0_6,r0_7,r0_8,r0_9,hR0⟩ | exact ⟨r1_0,r1_1,r1_2,r1_3,r1_4,r1_5,r1_6,r1_7,r1_8,r1_9,hb15⟩))
      (first | (go_at_call 37;refine (HV.out _ (((hv0.lift cb14).more cb14.size).up (Below.refl w14.heap.size w14).drew)).mono ?_;rintro e wR0 ⟨v1,rfl,hv1,hN0⟩;have hR0:=(Below.refl w14.heap.size w14).drew.trans (hN0.mono (Below.refl w14.heap.size w14).drew.size);have r0_0:=(kC hR0 cZ0 hlZ);have r0_1:=(kC hR0 cZ1 hlZ);have r0_2:=(kC hR0 cZ2 hlZ);have r0_3:=(kC hR0 cZ3 hlZ);have r0_4:=(kC hR0 cZ4 hlZ);have r0_5:=(kC hR0 cr0 hlr);have r0_6:=(kC hR0 cr1 hlr);have r0_7:=(kC hR0 cr2 hlr);have r0_8:=(kC hR0 cr3 hlr);have r0_9:=(kC hR0 cr4 hlr)) | (go_at_call 41;refine (HEv.out _ v1 _ (zI14.here.up hR0) hv1.here).mono ?_;rintro e w15 ⟨rfl,hN1⟩;have hb15:=hR0.trans (hN1.mono hR0.size);have r1_0:=(kC hb15 cZ0 hlZ);have r1_1:=(kC hb15 cZ1 hlZ);have r1_2:=(kC hb15 cZ2 hlZ);have r1_3:=(kC hb15 cZ3 hlZ);have r1_4:=(kC hb15 cZ4 hlZ);have r1_5:=(kC hb15 cr0 hlr);have r1_6:=(kC hb15 cr1 hlr);have r1_7:=(kC hb15 cr2 hlr);have r1_8:=(kC hb15 cr3 hlr);have r1_9:=(kC hb15 cr4 hlr)))
     clear cZ0 cZ1 cZ2 cZ3 cZ4 cr0 cr1 cr2 cr3 cr4
     have cb15:=cb14.trans (hb15.mono cb14.size)
     have sz15:=hb15.size
     have bp15:=bp14.below hb15 bp14.lt
     have bq15:=bq14.below hb15 bq14.lt
     have br15:=br14.below hb15 br14.lt
     have xI15:=xI14.keep (fun q _ hq=>hb15.block q hq)
     have xO15:=xO14.up hb15
     have bX15:=bX14.below hb15 bX14.lt
     have yI15:=yI14.keep (fun q _ hq=>hb15.block q hq)
     have yO15:=yO14.up hb15
     have bY15:=bY14.below hb15 bY14.lt
     have zI15:=zI14.keep (fun q _ hq=>hb15.block q hq)
     have zO15:=zO14.up hb15
     have bZ15:=bZ14.below hb15 bZ14.lt
     clear bp14 bq14 br14 xI14 xO14 bX14 yI14 yO14 bY14 zI14 zO14 bZ14
     clear hv1
     go_wp2
     go_ret
     exact ⟨rfl,cb15⟩
theorem own:ownKnob Tryz.prog.godebug=none:=by kernel_rfl
theorem laidOut:laidOutB Tryz.prog=true:=by kernel_rfl
def laid:List (String×DataW Unit):=Rows.fnExactCountFociRow.laid
set_option maxRecDepth 100000 in
theorem lifted (os:Os) (started:os.Started) (H:Type) (enc:TypeId×Value→H):
  ReturnsInHanded {} Tryz.checked os 6 .any (fun w args=>(Rows.fnExactCountFociSpec.pre enc Tryz.prog Tryz.f6 [] false w args∧laidMetH Tryz.prog laid w)∧sizedMet enc Tryz.prog Tryz.f6 (OpenSpec.ofChange Rows.fnExactCountFociSpec) false w args)
   (Rows.fnExactCountFociSpec.post enc Tryz.prog Tryz.f6 false true false false):=by
 refine law_lifted_vars (C:=Tryz.checked) (bt:=4) own laidOut started (by kernel_rfl) Tryz.func6 (by kernel_rfl) rfl Tryz.underlying4 (by kernel_rfl) ?_
  (ChangeSpec.witness_shaped (enc:=enc) (C:=Tryz.checked) (os:=os) (X:=fun w _=>laidMetH Tryz.prog laid w) false (World.laidAll Tryz.prog os laid) #[.agg #[.int .i64 0,.slice none 0 0,.slice none 0 0],.agg #[.int .i64 0,.string ⟨#[]⟩,.int .i64 0,.slice none 0 0],.agg #[.int .i64 0,.int .i64 0,.string ⟨#[]⟩,.slice none 0 0,.slice none 0 0]] 8 (World.laidAll_os _ _ _) (World.shaped_of_ZipB (by kernel_rfl) (by kernel_rfl)) (by kernel_rfl) (by kernel_rfl) (by kernel_rfl)
   (by rw [MakeChecks.laidMetH_plain _ _ _ (by kernel_rfl)];exact laidMet_laidAll _ (by kernel_rfl) (by kernel_rfl))) ?_
 ·intro ds gs hd hg
  have h1:ds.length=3:=hd
  have h2:gs.length=3:=hg
  match ds,gs,h1,h2 with
  | [d1,d2,d3],[g1,g2,g3],_,_=>rfl
 ·intro W base args ds p hval0 hA0 hlt hL hsh
  have hval:∀ (j:Nat) t v,Tryz.f6.params[j]?=some t→args[j]?=some v→Value.okWide Tryz.prog W .any base t v:=hval0
  have hA:DataW.TrodAll enc Tryz.prog W 0 (fun _=>true) true Tryz.f6.params.toList args.toList ds p:=hA0
  rw [Tryz.params6] at hA hval
  obtain ⟨v0,v1,v2,d0,d1,d2,p0,p1,p2,rfl,rfl,rfl,h0,h1,h2⟩:=trodAll_three hA
  obtain ⟨a0,ra0⟩:=open_type_arg (hval 0 57 v0 rfl rfl) h0 (fun x hx=>hlt x (by simp [hx]))
  obtain ⟨a1,ra1⟩:=open_optic_arg (hval 1 60 v1 rfl rfl) h1 (fun x hx=>hlt x (by simp [hx]))
  obtain ⟨a2,ra2,na2⟩:=open_value_arg (hval 2 63 v2 rfl rfl) h2 (fun x hx=>hlt x (by simp [hx]))
  rw [MakeChecks.laidMetH_plain _ _ _ (by kernel_rfl)] at hL
  obtain ⟨_,hUU⟩:=unfitAt_of (r:=[]) (laidMet.tail (x:=("loop.example/g00592/impl.kindJoins",Rows.laid_loop_example_g00592_impl_kindJoins)) (laidMet.tail (x:=("loop.example/g00592/impl.valueForms",Rows.laid_loop_example_g00592_impl_valueForms)) hL))
  exact walk a0 a1 a2 v0 v1 v2 W ra0 ra1 ra2 hUU (joinsAt_of (L:=laid) (by unfold laid;exact List.mem_cons_of_mem _ List.mem_cons_self) hL) (formsAt_of (L:=laid) (by unfold laid;exact List.mem_cons_self) hL) na2
theorem over:Rows.FnExactCountFociSaid:=
 OpenClaim.holds_of_wide 6 Tryz.f6 rfl rfl rfl rfl rfl rfl rfl ⟨rfl,rfl,rfl,rfl,rfl⟩ rfl rfl rfl rfl rfl (by kernel_rfl) Tryz.func6 (by kernel_rfl)
  (of_decide_eq_true (by kernel_rfl)) (by unfold Func.isWrapper;rw [if_neg (of_decide_eq_false (by kernel_rfl))];exact ⟨rfl,rfl⟩)
  (fun os started H enc _=>lifted os started H enc)
theorem proved:Rows.FnExactCountFociCardSaid:=
 Claim7.holds_tied_plain_at .later [] Rows.fnExactCountFociCard.laidKinds true Rows.fnExactCountFociCard.stood.harness Rows.fnExactCountFociCard.stood.looks
  over (fun _ h=>by cases h) (by kernel_rfl) (fun _ h=>by cases h) fnExactCountFoci_row_tie rfl ⟨rfl,rfl⟩ (by kernel_rfl) rfl
  (fun f fn hf hfn=>by
   obtain rfl:f=6:=Option.some.inj ((show Tryz.prog.funcNamed "loop.example/g00592/laws.FnExactCountFoci"=some 6 by kernel_rfl).symm.trans hf) |>.symm
   obtain rfl:fn=Tryz.f6:=(Option.some.inj (Tryz.func6.symm.trans hfn)).symm
   exact ⟨by kernel_rfl,fun j t ht=>by
    rw [Tryz.params6] at ht
    have hm:=Array.mem_of_getElem? ht
    have hall:(#[57,60,63].toList.all fun u=>!Tryz.prog.wantsStandIn u)=true:=by kernel_rfl
    exact (show Tryz.prog.wantsStandIn t=false by simpa using List.all_eq_true.1 hall t (by simpa using hm))⟩)
  (by kernel_rfl)
end Go.Proofs.YtfnblkcmcfofoaaGreatDoor.lawCountFoci
