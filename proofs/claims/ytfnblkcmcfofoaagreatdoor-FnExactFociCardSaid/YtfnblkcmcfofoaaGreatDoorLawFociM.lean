/- The law Foci. -/
import Derived.Test.YtfnblkcmcfofoaaGreatDoorRows
import Derived.Test.YtfnblkcmcfofoaaGreatDoorLawFoci_1
import Derived.Test.YtfnblkcmcfofoaaGreatDoorCards
import Derived.Test.YtfnblkcmcfofoaaGreatDoorTie
import Derived.Test.YtfnblkcmcfofoaaGreatDoorLawFoci_2
import Derived.Test.YtfnblkcmcfofoaaGreatDoorLawFoci_3
import Derived.Test.YtfnblkcmcfofoaaGreatDoorLawFoci_4
import Derived.Test.YtfnblkcmcfofoaaGreatDoorLawFoci_5
import Derived.Test.YtfnblkcmcfofoaaGreatDoorLawFoci_6
import Derived.Test.YtfnblkcmcfofoaaGreatDoorLawFoci_7
import Derived.Test.YtfnblkcmcfofoaaGreatDoorLawFoci_8
import Derived.Test.YtfnblkcmcfofoaaGreatDoorLawFoci_47
import Derived.Test.YtfnblkcmcfofoaaGreatDoorLawFoci_52
import Derived.Test.YtfnblkcmcfofoaaGreatDoorLawFoci_53
import Derived.SevenTiedAt
import Derived.Deep.DeepCutAuto
import Derived.Deep.CutRange
import Derived.Deep.DrawnRows
import Derived.Deep.RegionHeld3

namespace Go.Proofs.YtfnblkcmcfofoaaGreatDoor.lawFoci
open Go.ChangeShapes Go.WideShapes Go.ChangeAt Go.RowKit
open Go.ChangeMaps (open_string shut_string)
theorem leftOf_le2 (left:Int) (n:Nat) (h:0≤left):leftOf left n≤left:=by unfold leftOf;split<;>omega
set_option maxHeartbeats 40000000 in
set_option maxRecDepth 100000 in
theorem walk (t:Ty) (t':Ot) (t'':Va) (va vb vc:Value) (w:World) {u:Value} (ha0:TyAt w w.heap.size va t) (hd0:OtAt w w.heap.size vb t') (hv0:VaAt w w.heap.size vc t'') (hU0:UnfitAt w u) (hJ0:JoinsAt w) (hF0:FormsAt w) (hnum:numsB t''=true):
  Calls Tryz.prog 5 #[va,vb,vc] w (TrueBelow w):=by
 obtain ⟨L0,l0,A0,a0,rfl,_⟩:=ha0.open
 obtain ⟨A1,a1,rfl,_⟩:=hd0.open
 obtain ⟨L2,l2,A2,a2,rfl,_⟩:=hv0.open
 obtain ⟨hb1,bp1,bq1,br1,hz1⟩:=boxes3 w 57 60 63 #[.int .i64 t.kind,.slice L0 t.labels.length l0,.slice A0 t.args.length a0] #[.int .i64 t'.kind,.string t'.name,.int .i64 t'.num,.slice A1 t'.args.length a1] #[.int .i64 t''.kind,.int .i64 t''.num,.string t''.name,.slice L2 t''.labels.length l2,.slice A2 t''.args.length a2]
 go_enter Tryz.func5,Tryz.ntmps5
 go_wp2_with fail
 generalize ((w.alloc (.cells #[.int .i64 t.kind,.slice L0 t.labels.length l0,.slice A0 t.args.length a0] 57)).alloc (.cells #[.int .i64 t'.kind,.string t'.name,.int .i64 t'.num,.slice A1 t'.args.length a1] 60)).alloc (.cells #[.int .i64 t''.kind,.int .i64 t''.num,.string t''.name,.slice L2 t''.labels.length l2,.slice A2 t''.args.length a2] 63)=w1 at *
 have zz1:w.heap.size+1+1<w1.heap.size:=by omega
 clear hz1
 have cb1:=hb1
 have sz1:=hb1.size
 refine (szTy_any t _ 1048576 w1 ((ha0.lift cb1).more cb1.size) (by omega) (by omega)).mono ?_
 rintro e w2 ⟨rfl,hb2⟩
 have cb2:=cb1.trans (hb2.mono cb1.size)
 have sz2:=hb2.size
 have bp2:=bp1.below hb2 bp1.lt
 have bq2:=bq1.below hb2 bq1.lt
 have br2:=br1.below hb2 br1.lt
 clear bp1 bq1 br1
 by_cases hneg:(1048576:Int) - szTy t<0
 ·rw [show leftOf 1048576 (szTy t)=-1 from by unfold leftOf;rw [if_pos hneg]]
  go_wp2
  go_ret
  exact ⟨rfl,cb2⟩
 ·have hsz:szTy t≤1048576:=by omega
  have hq2:¬ leftOf 1048576 (szTy t)<0:=by unfold leftOf;rw [if_neg hneg];exact hneg
  have hl2:=leftOf_le2 1048576 (szTy t) (by omega)
  generalize leftOf 1048576 (szTy t)=lf0 at *
  obtain ⟨cq0,cq1,cq2,cq3⟩:=bq2.c4
  go_wp2_with fail
  clear cq0 cq1 cq2 cq3
  refine (szOt_any t' _ lf0 w2 ((hd0.lift cb2).more cb2.size) (by omega) (by omega)).mono ?_
  rintro e w3 ⟨rfl,hb3⟩
  have cb3:=cb2.trans (hb3.mono cb2.size)
  have sz3:=hb3.size
  have bp3:=bp2.below hb3 bp2.lt
  have bq3:=bq2.below hb3 bq2.lt
  have br3:=br2.below hb3 br2.lt
  clear bp2 bq2 br2
  by_cases hneg':(lf0:Int) - szOt t'<0
  ·rw [show leftOf lf0 (szOt t')=-1 from by unfold leftOf;rw [if_pos hneg']]
   go_wp2
   go_ret
   exact ⟨rfl,cb3⟩
  ·have hsz':szOt t'≤1048576:=by omega
   have hq3:¬ leftOf lf0 (szOt t')<0:=by unfold leftOf;rw [if_neg hneg'];exact hneg'
   have hl3:=leftOf_le2 lf0 (szOt t') (by omega)
   generalize leftOf lf0 (szOt t')=lf1 at *
   obtain ⟨cr0,cr1,cr2,cr3,cr4⟩:=br3.c5
   go_wp2_with fail
   clear cr0 cr1 cr2 cr3 cr4
   refine (szVa_any t'' _ lf1 w3 ((hv0.lift cb3).more cb3.size) (by omega) (by omega)).mono ?_
   rintro e w4 ⟨rfl,hb4⟩
   have cb4:=cb3.trans (hb4.mono cb3.size)
   have sz4:=hb4.size
   have bp4:=bp3.below hb4 bp3.lt
   have bq4:=bq3.below hb4 bq3.lt
   have br4:=br3.below hb4 br3.lt
   clear bp3 bq3 br3
   by_cases hneg'':(lf1:Int) - szVa t''<0
   ·rw [show leftOf lf1 (szVa t'')=-1 from by unfold leftOf;rw [if_pos hneg'']]
    go_wp2
    go_ret
    exact ⟨rfl,cb4⟩
   ·have hsz'':szVa t''≤1048576:=by omega
    have hq4:¬ leftOf lf1 (szVa t'')<0:=by unfold leftOf;rw [if_neg hneg''];exact hneg''
    have hl4:=leftOf_le2 lf1 (szVa t'') (by omega)
    generalize leftOf lf1 (szVa t'')=lf2 at *
    have HT:=Lib.hid (fun W (h:TyAt W W.heap.size (.agg #[.int .i64 t.kind,.slice L0 t.labels.length l0,.slice A0 t.args.length a0]) t)=>toType_any t _ W h hsz)
    have HO:=Lib.hid (fun W (h:OtAt W W.heap.size (.agg #[.int .i64 t'.kind,.string t'.name,.int .i64 t'.num,.slice A1 t'.args.length a1]) t')=>toOptic_any t' _ W h hsz')
    have HV:=Lib.hid (fun W (h:VaAt W W.heap.size (.agg #[.int .i64 t''.kind,.int .i64 t''.num,.string t''.name,.slice L2 t''.labels.length l2,.slice A2 t''.args.length a2]) t'')=>toValue_any t'' _ W h hsz'')
    have HEt:=Lib.hid (fun V V' W h h'=>eqType_any t V V' W h h')
    have HEo:=Lib.hid (fun V V' W h h'=>eqOptic_any t' V V' W h h')
    have HEv:=Lib.hid (fun V V' W h h'=>eqValue_any t'' V V' W h h')
    have HS:=Lib.hid (fun V V' V'' W h h' h''=>specFociT_any t t' t'' V V' V'' W h h' h'' hsz hsz' hsz'')
    have HI:=Lib.hid (fun X X' X'' W h h' h'' hU hJ hF=>implFociT_any (u:=u) t t' t'' X X' X'' W h h' h'' hU hJ hF hnum hsz hsz' hsz'')
    have hszl:szVas ((fociB t t' t'').getD [])≤1048575:=by
     cases hr:fociB t t' t'' with
     | none=>simp [szVas]
     | some l=>exact (fociB_len hr).1
    have hTop:∀ W e W',TopS (fociB t t' t'') W e W'→∃ A c,e=.returned (.tuple #[.slice A ((fociB t t' t'').getD []).length c,.bool (fociB t t' t'').isSome])∧VasR W' (fun b=>W.heap.size≤b) A ((fociB t t' t'').getD [])∧Below W.heap.size W W':=fun _ _ _ h=>h
    have hTopI:∀ W e W',TopI (fociB t t' t'') W e W'→∃ A c,e=.returned (.tuple #[.slice A ((fociB t t' t'').getD []).length c,.bool (fociB t t' t'').isSome])∧VasIn W' (Span W.heap.size W'.heap.size) A ((fociB t t' t'').getD [])∧Below W.heap.size W W':=fun _ _ _ h=>h
    have HS2:=Lib.hid (fun V V' V'' W h h' h''=>(HS.out V V' V'' W h h' h'').mono (fun e W'=>hTop W e W'))
    have HI2:=Lib.hid (fun X X' X'' W h h' h'' hU hJ hF=>(HI.out X X' X'' W h h' h'' hU hJ hF).mono (fun e W'=>hTopI W e W'))
    clear HS HI hTop hTopI
    generalize (fociB t t' t'').getD []=l at *
    generalize (fociB t t' t'').isSome=ok at *
    have hcl:=cnts_le_szVs l
    have hct:=cnt_le_sz t
    have hco:=cnt_le_szO t'
    have hcv:=cnt_le_szV t''
    have HEl:=Lib.hid (fun A A' c c' W h h'=>eqValueS_of l (fun i _=>eqValue_any l[i]) A A' c c' W h h')
    have hoo:(ok != ok)=false:=by simp
    obtain ⟨cp0,cp1,cp2⟩:=bp4.c3
    obtain ⟨cq0,cq1,cq2,cq3⟩:=bq4.c4
    obtain ⟨cr0,cr1,cr2,cr3,cr4⟩:=br4.c5
    have hlp:=bp4.lt
    have hlq:=bq4.lt
    have hlr:=br4.lt
    have hD:=(Below.refl w4.heap.size w4).drew
    go_upto_region 11 with fail
    go_cut [8,9] (fun r0 r1 wx=>(∃ A c,r0=.slice A l.length c∧r1=.bool ok∧VasAt wx wx.heap.size A l)∧Below w4.heap.size w4 wx)
    case first=>
     have t_0:=dC cp0
     have t_1:=dC cp1
     have t_2:=dC cp2
     have t_3:=dC cq0
     have t_4:=dC cq1
     have t_5:=dC cq2
     have t_6:=dC cq3
     have t_7:=dC cr0
     have t_8:=dC cr1
     have t_9:=dC cr2
     have t_10:=dC cr3
     have t_11:=dC cr4
     go_region_held3 (fun x=>x.cell? ⟨w.heap.size,0,none⟩=some (.int .i64 t.kind)∧x.cell? ⟨w.heap.size,1,none⟩=some (.slice L0 t.labels.length l0)∧x.cell? ⟨w.heap.size,2,none⟩=some (.slice A0 t.args.length a0)∧x.cell? ⟨w.heap.size+1,0,none⟩=some (.int .i64 t'.kind)∧x.cell? ⟨w.heap.size+1,1,none⟩=some (.string t'.name)∧x.cell? ⟨w.heap.size+1,2,none⟩=some (.int .i64 t'.num)∧x.cell? ⟨w.heap.size+1,3,none⟩=some (.slice A1 t'.args.length a1)∧x.cell? ⟨w.heap.size+1+1,0,none⟩=some (.int .i64 t''.kind)∧x.cell? ⟨w.heap.size+1+1,1,none⟩=some (.int .i64 t''.num)∧x.cell? ⟨w.heap.size+1+1,2,none⟩=some (.string t''.name)∧x.cell? ⟨w.heap.size+1+1,3,none⟩=some (.slice L2 t''.labels.length l2)∧x.cell? ⟨w.heap.size+1+1,4,none⟩=some (.slice A2 t''.args.length a2)∧Below w4.heap.size w4 x) ((first | (with_reducible exact ⟨t_0,t_1,t_2,t_3,t_4,t_5,t_6,t_7,t_8,t_9,t_10,t_11,hD⟩) | (with_reducible exact ⟨s0_0_0,s0_0_1,s0_0_2,s0_0_3,s0_0_4,s0_0_5,s0_0_6,s0_0_7,s0_0_8,s0_0_9,s0_0_10,s0_0_11,hP0_0⟩) | (with_reducible exact ⟨s0_1_0,s0_1_1,s0_1_2,s0_1_3,s0_1_4,s0_1_5,s0_1_6,s0_1_7,s0_1_8,s0_1_9,s0_1_10,s0_1_11,hP0_1⟩) | (with_reducible exact ⟨s0_2_0,s0_2_1,s0_2_2,s0_2_3,s0_2_4,s0_2_5,s0_2_6,s0_2_7,s0_2_8,s0_2_9,s0_2_10,s0_2_11,hP0_2⟩) | (with_reducible exact ⟨s0_3_0,s0_3_1,s0_3_2,s0_3_3,s0_3_4,s0_3_5,s0_3_6,s0_3_7,s0_3_8,s0_3_9,s0_3_10,s0_3_11,hP0_3⟩)))
      (first | (go_at_call 35;(with_reducible refine (HT.out _ (((ha0.lift cb4).more cb4.size).up hD)).mono ?_);rintro e wP0_0 ⟨v1,rfl,hv1,hN0_0⟩;have hP0_0:=hD.trans (hN0_0.mono hD.size);have s0_0_0:=(kC hP0_0 cp0 hlp);have s0_0_1:=(kC hP0_0 cp1 hlp);have s0_0_2:=(kC hP0_0 cp2 hlp);have s0_0_3:=(kC hP0_0 cq0 hlq);have s0_0_4:=(kC hP0_0 cq1 hlq);have s0_0_5:=(kC hP0_0 cq2 hlq);have s0_0_6:=(kC hP0_0 cq3 hlq);have s0_0_7:=(kC hP0_0 cr0 hlr);have s0_0_8:=(kC hP0_0 cr1 hlr);have s0_0_9:=(kC hP0_0 cr2 hlr);have s0_0_10:=(kC hP0_0 cr3 hlr);have s0_0_11:=(kC hP0_0 cr4 hlr)) | (go_at_call 36;(with_reducible refine (HO.out _ (((hd0.lift cb4).more cb4.size).up hP0_0)).mono ?_);rintro e wP0_1 ⟨v2,rfl,hv2,hN0_1⟩;have hP0_1:=hP0_0.trans (hN0_1.mono hP0_0.size);have s0_1_0:=(kC hP0_1 cp0 hlp);have s0_1_1:=(kC hP0_1 cp1 hlp);have s0_1_2:=(kC hP0_1 cp2 hlp);have s0_1_3:=(kC hP0_1 cq0 hlq);have s0_1_4:=(kC hP0_1 cq1 hlq);have s0_1_5:=(kC hP0_1 cq2 hlq);have s0_1_6:=(kC hP0_1 cq3 hlq);have s0_1_7:=(kC hP0_1 cr0 hlr);have s0_1_8:=(kC hP0_1 cr1 hlr);have s0_1_9:=(kC hP0_1 cr2 hlr);have s0_1_10:=(kC hP0_1 cr3 hlr);have s0_1_11:=(kC hP0_1 cr4 hlr)) | (go_at_call 37;(with_reducible refine (HV.out _ (((hv0.lift cb4).more cb4.size).up hP0_1)).mono ?_);rintro e wP0_2 ⟨v3,rfl,hv3,hN0_2⟩;have hP0_2:=hP0_1.trans (hN0_2.mono hP0_1.size);have s0_2_0:=(kC hP0_2 cp0 hlp);have s0_2_1:=(kC hP0_2 cp1 hlp);have s0_2_2:=(kC hP0_2 cp2 hlp);have s0_2_3:=(kC hP0_2 cq0 hlq);have s0_2_4:=(kC hP0_2 cq1 hlq);have s0_2_5:=(kC hP0_2 cq2 hlq);have s0_2_6:=(kC hP0_2 cq3 hlq);have s0_2_7:=(kC hP0_2 cr0 hlr);have s0_2_8:=(kC hP0_2 cr1 hlr);have s0_2_9:=(kC hP0_2 cr2 hlr);have s0_2_10:=(kC hP0_2 cr3 hlr);have s0_2_11:=(kC hP0_2 cr4 hlr)) | (go_at_call 22;(with_reducible refine (HS2.out v1 v2 v3 _ (hv1.here.up (hN0_1.trans (hN0_2.mono hN0_1.size))) (hv2.here.up hN0_2) hv3.here).mono ?_);rintro e wP0_3 ⟨A6,c6,rfl,hs6,hN0_3⟩;have hP0_3:=hP0_2.trans (hN0_3.mono hP0_2.size);have s0_3_0:=(kC hP0_3 cp0 hlp);have s0_3_1:=(kC hP0_3 cp1 hlp);have s0_3_2:=(kC hP0_3 cp2 hlp);have s0_3_3:=(kC hP0_3 cq0 hlq);have s0_3_4:=(kC hP0_3 cq1 hlq);have s0_3_5:=(kC hP0_3 cq2 hlq);have s0_3_6:=(kC hP0_3 cq3 hlq);have s0_3_7:=(kC hP0_3 cr0 hlr);have s0_3_8:=(kC hP0_3 cr1 hlr);have s0_3_9:=(kC hP0_3 cr2 hlr);have s0_3_10:=(kC hP0_3 cr3 hlr);have s0_3_11:=(kC hP0_3 cr4 hlr)))
     all_goals go_wp2
     all_goals go_meet
     all_goals first | exact ⟨⟨A6,c6,rfl,rfl,hs6.here⟩,hP0_3⟩
    case rest=>
     obtain ⟨⟨A6,c6,rfl,rfl,hwT⟩,hb5⟩:=hcut
     have hw5:wc=wc:=rfl
     clear hw5
     clear hD
     generalize wc=w5 at *
     clear cp0 cp1 cp2 cq0 cq1 cq2 cq3 cr0 cr1 cr2 cr3 cr4
     have cb5:=cb4.trans (hb5.mono cb4.size)
     have sz5:=hb5.size
     have bp5:=bp4.below hb5 bp4.lt
     have bq5:=bq4.below hb5 bq4.lt
     have br5:=br4.below hb5 br4.lt
     clear bp4 bq4 br4
     have kW5:Below w5.heap.size w5 w5:=Below.refl _ _
     obtain ⟨cp0,cp1,cp2⟩:=bp5.c3
     go_wp2_with fail
     clear cp0 cp1 cp2
     refine (HT.out w5 ((ha0.lift cb5).more cb5.size)).mono ?_
     rintro e w6 ⟨u3,rfl,xI6,hb6⟩
     have cb6:=cb5.trans (hb6.mono cb5.size)
     have sz6:=hb6.size
     have bp6:=bp5.below hb6 bp5.lt
     have bq6:=bq5.below hb6 bq5.lt
     have br6:=br5.below hb6 br5.lt
     have kW6:=kW5.trans (hb6.mono kW5.size)
     clear bp5 bq5 br5 kW5
     obtain ⟨L3,l3,A3,a3,_,rfl,_⟩:=xI6.open
     have xO6:=OwnT.of xI6
     obtain ⟨hb7,bX7,hz7⟩:=boxes1 w6 27 #[.int .i64 t.kind,.slice L3 t.labels.length l3,.slice A3 t.args.length a3]
     have dq:=bq6.below hb7 bq6.lt
     obtain ⟨cq0,cq1,cq2,cq3⟩:=dq.c4
     go_wp2_with fail
     clear dq cq0 cq1 cq2 cq3
     generalize w6.alloc (.cells #[.int .i64 t.kind,.slice L3 t.labels.length l3,.slice A3 t.args.length a3] 27)=w7 at *
     have zz7:w6.heap.size<w7.heap.size:=by omega
     clear hz7
     have cb7:=cb6.trans (hb7.mono cb6.size)
     have sz7:=hb7.size
     have bp7:=bp6.below hb7 bp6.lt
     have bq7:=bq6.below hb7 bq6.lt
     have br7:=br6.below hb7 br6.lt
     have kW7:=kW6.trans (hb7.mono kW6.size)
     have xI7:=xI6.keep (fun q _ hq=>hb7.block q hq)
     have xO7:=xO6.up hb7
     clear bp6 bq6 br6 kW6 xI6 xO6
     refine (HO.out w7 ((hd0.lift cb7).more cb7.size)).mono ?_
     rintro e w8 ⟨u4,rfl,yI8,hb8⟩
     have cb8:=cb7.trans (hb8.mono cb7.size)
     have sz8:=hb8.size
     have bp8:=bp7.below hb8 bp7.lt
     have bq8:=bq7.below hb8 bq7.lt
     have br8:=br7.below hb8 br7.lt
     have kW8:=kW7.trans (hb8.mono kW7.size)
     have xI8:=xI7.keep (fun q _ hq=>hb8.block q hq)
     have xO8:=xO7.up hb8
     have bX8:=bX7.below hb8 bX7.lt
     clear bp7 bq7 br7 kW7 xI7 xO7 bX7
     obtain ⟨A4,a4,rfl,_⟩:=yI8.open
     have yO8:=OwnO.of yI8
     obtain ⟨hb9,bY9,hz9⟩:=boxes1 w8 30 #[.int .i64 t'.kind,.string t'.name,.int .i64 t'.num,.slice A4 t'.args.length a4]
     have dr:=br8.below hb9 br8.lt
     obtain ⟨cr0,cr1,cr2,cr3,cr4⟩:=dr.c5
     go_wp2_with fail
     clear dr cr0 cr1 cr2 cr3 cr4
     generalize w8.alloc (.cells #[.int .i64 t'.kind,.string t'.name,.int .i64 t'.num,.slice A4 t'.args.length a4] 30)=w9 at *
     have zz9:w8.heap.size<w9.heap.size:=by omega
     clear hz9
     have cb9:=cb8.trans (hb9.mono cb8.size)
     have sz9:=hb9.size
     have bp9:=bp8.below hb9 bp8.lt
     have bq9:=bq8.below hb9 bq8.lt
     have br9:=br8.below hb9 br8.lt
     have kW9:=kW8.trans (hb9.mono kW8.size)
     have xI9:=xI8.keep (fun q _ hq=>hb9.block q hq)
     have xO9:=xO8.up hb9
     have bX9:=bX8.below hb9 bX8.lt
     have yI9:=yI8.keep (fun q _ hq=>hb9.block q hq)
     have yO9:=yO8.up hb9
     clear bp8 bq8 br8 kW8 xI8 xO8 bX8 yI8 yO8
     refine (HV.out w9 ((hv0.lift cb9).more cb9.size)).mono ?_
     rintro e w10 ⟨u5,rfl,zI10,hb10⟩
     have cb10:=cb9.trans (hb10.mono cb9.size)
     have sz10:=hb10.size
     have bp10:=bp9.below hb10 bp9.lt
     have bq10:=bq9.below hb10 bq9.lt
     have br10:=br9.below hb10 br9.lt
     have kW10:=kW9.trans (hb10.mono kW9.size)
     have xI10:=xI9.keep (fun q _ hq=>hb10.block q hq)
     have xO10:=xO9.up hb10
     have bX10:=bX9.below hb10 bX9.lt
     have yI10:=yI9.keep (fun q _ hq=>hb10.block q hq)
     have yO10:=yO9.up hb10
     have bY10:=bY9.below hb10 bY9.lt
     clear bp9 bq9 br9 kW9 xI9 xO9 bX9 yI9 yO9 bY9
     obtain ⟨L5,l5,A5,a5,_,rfl,_⟩:=zI10.open
     have zO10:=OwnV.of zI10
     obtain ⟨hb11,bZ11,hz11⟩:=boxes1 w10 41 #[.int .i64 t''.kind,.int .i64 t''.num,.string t''.name,.slice L5 t''.labels.length l5,.slice A5 t''.args.length a5]
     have dX:=bX10.below hb11 bX10.lt
     obtain ⟨cX0,cX1,cX2⟩:=dX.c3
     have dY:=bY10.below hb11 bY10.lt
     obtain ⟨cY0,cY1,cY2,cY3⟩:=dY.c4
     go_wp2_with fail
     clear dX cX0 cX1 cX2
     clear dY cY0 cY1 cY2 cY3
     generalize w10.alloc (.cells #[.int .i64 t''.kind,.int .i64 t''.num,.string t''.name,.slice L5 t''.labels.length l5,.slice A5 t''.args.length a5] 41)=w11 at *
     have zz11:w10.heap.size<w11.heap.size:=by omega
     clear hz11
     have cb11:=cb10.trans (hb11.mono cb10.size)
     have sz11:=hb11.size
     have bp11:=bp10.below hb11 bp10.lt
     have bq11:=bq10.below hb11 bq10.lt
     have br11:=br10.below hb11 br10.lt
     have kW11:=kW10.trans (hb11.mono kW10.size)
     have xI11:=xI10.keep (fun q _ hq=>hb11.block q hq)
     have xO11:=xO10.up hb11
     have bX11:=bX10.below hb11 bX10.lt
     have yI11:=yI10.keep (fun q _ hq=>hb11.block q hq)
     have yO11:=yO10.up hb11
     have bY11:=bY10.below hb11 bY10.lt
     have zI11:=zI10.keep (fun q _ hq=>hb11.block q hq)
     have zO11:=zO10.up hb11
     clear bp10 bq10 br10 kW10 xI10 xO10 bX10 yI10 yO10 bY10 zI10 zO10
     refine (HI2.out _ _ _ w11 xO11 yO11 zO11 (hU0.below cb11) (hJ0.below cb11) (hF0.below cb11)).mono ?_
     rintro e w12 ⟨A7,c7,rfl,gI12,hb12⟩
     have cb12:=cb11.trans (hb12.mono cb11.size)
     have sz12:=hb12.size
     have bp12:=bp11.below hb12 bp11.lt
     have bq12:=bq11.below hb12 bq11.lt
     have br12:=br11.below hb12 br11.lt
     have kW12:=kW11.trans (hb12.mono kW11.size)
     have xI12:=xI11.keep (fun q _ hq=>hb12.block q hq)
     have xO12:=xO11.up hb12
     have bX12:=bX11.below hb12 bX11.lt
     have yI12:=yI11.keep (fun q _ hq=>hb12.block q hq)
     have yO12:=yO11.up hb12
     have bY12:=bY11.below hb12 bY11.lt
     have zI12:=zI11.keep (fun q _ hq=>hb12.block q hq)
     have zO12:=zO11.up hb12
     have bZ12:=bZ11.below hb12 bZ11.lt
     clear bp11 bq11 br11 kW11 xI11 xO11 bX11 yI11 yO11 bY11 zI11 zO11 bZ11
     clear xO12 yO12 zO12
     go_wp2_with fail
     refine (HEl.out A7 A6 c7 c6 w12 gI12.here ((hwT.below kW12).more kW12.size)).mono ?_
     rintro e w13 ⟨rfl,hb13⟩
     have cb13:=cb12.trans (hb13.mono cb12.size)
     have sz13:=hb13.size
     have bp13:=bp12.below hb13 bp12.lt
     have bq13:=bq12.below hb13 bq12.lt
     have br13:=br12.below hb13 br12.lt
     have kW13:=kW12.trans (hb13.mono kW12.size)
     have xI13:=xI12.keep (fun q _ hq=>hb13.block q hq)
     have bX13:=bX12.below hb13 bX12.lt
     have yI13:=yI12.keep (fun q _ hq=>hb13.block q hq)
     have bY13:=bY12.below hb13 bY12.lt
     have zI13:=zI12.keep (fun q _ hq=>hb13.block q hq)
     have bZ13:=bZ12.below hb13 bZ12.lt
     have gI13:=gI12.keep (fun q _ hq=>hb13.block q hq)
     clear bp12 bq12 br12 kW12 xI12 bX12 yI12 bY12 zI12 bZ12 gI12
     obtain ⟨cX0,cX1,cX2⟩:=bX13.c3
     obtain ⟨cp0,cp1,cp2⟩:=bp13.c3
     have hlX:=bX13.lt
     have hlp:=bp13.lt
     go_wp2_with fail
     go_region_held3 (fun x=>x.cell? ⟨w6.heap.size,0,none⟩=some (.int .i64 t.kind)∧x.cell? ⟨w6.heap.size,1,none⟩=some (.slice L3 t.labels.length l3)∧x.cell? ⟨w6.heap.size,2,none⟩=some (.slice A3 t.args.length a3)∧x.cell? ⟨w.heap.size,0,none⟩=some (.int .i64 t.kind)∧x.cell? ⟨w.heap.size,1,none⟩=some (.slice L0 t.labels.length l0)∧x.cell? ⟨w.heap.size,2,none⟩=some (.slice A0 t.args.length a0)∧Below w13.heap.size w13 x) ((first | exact ⟨cX0,cX1,cX2,cp0,cp1,cp2,(Below.refl _ _).drew⟩ | exact ⟨r0_0,r0_1,r0_2,r0_3,r0_4,r0_5,hR0⟩ | exact ⟨r1_0,r1_1,r1_2,r1_3,r1_4,r1_5,hb14⟩))
      (first | (go_at_call 35;refine (HT.out _ (((ha0.lift cb13).more cb13.size).up (Below.refl w13.heap.size w13).drew)).mono ?_;rintro e wR0 ⟨v1,rfl,hv1,hN0⟩;have hR0:=(Below.refl w13.heap.size w13).drew.trans (hN0.mono (Below.refl w13.heap.size w13).drew.size);have r0_0:=(kC hR0 cX0 hlX);have r0_1:=(kC hR0 cX1 hlX);have r0_2:=(kC hR0 cX2 hlX);have r0_3:=(kC hR0 cp0 hlp);have r0_4:=(kC hR0 cp1 hlp);have r0_5:=(kC hR0 cp2 hlp)) | (go_at_call 39;refine (HEt.out _ v1 _ (xI13.here.up hR0) hv1.here).mono ?_;rintro e w14 ⟨rfl,hN1⟩;have hb14:=hR0.trans (hN1.mono hR0.size);have r1_0:=(kC hb14 cX0 hlX);have r1_1:=(kC hb14 cX1 hlX);have r1_2:=(kC hb14 cX2 hlX);have r1_3:=(kC hb14 cp0 hlp);have r1_4:=(kC hb14 cp1 hlp);have r1_5:=(kC hb14 cp2 hlp)))
     clear cX0 cX1 cX2 cp0 cp1 cp2
     have cb14:=cb13.trans (hb14.mono cb13.size)
     have sz14:=hb14.size
     have bp14:=bp13.below hb14 bp13.lt
     have bq14:=bq13.below hb14 bq13.lt
     have br14:=br13.below hb14 br13.lt
     have kW14:=kW13.trans (hb14.mono kW13.size)
     have xI14:=xI13.keep (fun q _ hq=>hb14.block q hq)
     have bX14:=bX13.below hb14 bX13.lt
     have yI14:=yI13.keep (fun q _ hq=>hb14.block q hq)
     have bY14:=bY13.below hb14 bY13.lt
     have zI14:=zI13.keep (fun q _ hq=>hb14.block q hq)
     have bZ14:=bZ13.below hb14 bZ13.lt
     have gI14:=gI13.keep (fun q _ hq=>hb14.block q hq)
     clear bp13 bq13 br13 kW13 xI13 bX13 yI13 bY13 zI13 bZ13 gI13
     clear hv1
     obtain ⟨cY0,cY1,cY2,cY3⟩:=bY14.c4
     obtain ⟨cq0,cq1,cq2,cq3⟩:=bq14.c4
     have hlY:=bY14.lt
     have hlq:=bq14.lt
     go_wp2_with fail
     go_region_held3 (fun x=>x.cell? ⟨w8.heap.size,0,none⟩=some (.int .i64 t'.kind)∧x.cell? ⟨w8.heap.size,1,none⟩=some (.string t'.name)∧x.cell? ⟨w8.heap.size,2,none⟩=some (.int .i64 t'.num)∧x.cell? ⟨w8.heap.size,3,none⟩=some (.slice A4 t'.args.length a4)∧x.cell? ⟨w.heap.size+1,0,none⟩=some (.int .i64 t'.kind)∧x.cell? ⟨w.heap.size+1,1,none⟩=some (.string t'.name)∧x.cell? ⟨w.heap.size+1,2,none⟩=some (.int .i64 t'.num)∧x.cell? ⟨w.heap.size+1,3,none⟩=some (.slice A1 t'.args.length a1)∧Below w14.heap.size w14 x) ((first | exact ⟨cY0,cY1,cY2,cY3,cq0,cq1,cq2,cq3,(Below.refl _ _).drew⟩ | exact ⟨r0_0,r0_1,r0_2,r0_3,r0_4,r0_5,r0_6,r0_7,hR0⟩ | exact ⟨r1_0,r1_1,r1_2,r1_3,r1_4,r1_5,r1_6,r1_7,hb15⟩))
      (first | (go_at_call 36;refine (HO.out _ (((hd0.lift cb14).more cb14.size).up (Below.refl w14.heap.size w14).drew)).mono ?_;rintro e wR0 ⟨v1,rfl,hv1,hN0⟩;have hR0:=(Below.refl w14.heap.size w14).drew.trans (hN0.mono (Below.refl w14.heap.size w14).drew.size);have r0_0:=(kC hR0 cY0 hlY);have r0_1:=(kC hR0 cY1 hlY);have r0_2:=(kC hR0 cY2 hlY);have r0_3:=(kC hR0 cY3 hlY);have r0_4:=(kC hR0 cq0 hlq);have r0_5:=(kC hR0 cq1 hlq);have r0_6:=(kC hR0 cq2 hlq);have r0_7:=(kC hR0 cq3 hlq)) | (go_at_call 40;refine (HEo.out _ v1 _ (yI14.here.up hR0) hv1.here).mono ?_;rintro e w15 ⟨rfl,hN1⟩;have hb15:=hR0.trans (hN1.mono hR0.size);have r1_0:=(kC hb15 cY0 hlY);have r1_1:=(kC hb15 cY1 hlY);have r1_2:=(kC hb15 cY2 hlY);have r1_3:=(kC hb15 cY3 hlY);have r1_4:=(kC hb15 cq0 hlq);have r1_5:=(kC hb15 cq1 hlq);have r1_6:=(kC hb15 cq2 hlq);have r1_7:=(kC hb15 cq3 hlq)))
     clear cY0 cY1 cY2 cY3 cq0 cq1 cq2 cq3
     have cb15:=cb14.trans (hb15.mono cb14.size)
     have sz15:=hb15.size
     have bp15:=bp14.below hb15 bp14.lt
     have bq15:=bq14.below hb15 bq14.lt
     have br15:=br14.below hb15 br14.lt
     have kW15:=kW14.trans (hb15.mono kW14.size)
     have xI15:=xI14.keep (fun q _ hq=>hb15.block q hq)
     have bX15:=bX14.below hb15 bX14.lt
     have yI15:=yI14.keep (fun q _ hq=>hb15.block q hq)
     have bY15:=bY14.below hb15 bY14.lt
     have zI15:=zI14.keep (fun q _ hq=>hb15.block q hq)
     have bZ15:=bZ14.below hb15 bZ14.lt
     have gI15:=gI14.keep (fun q _ hq=>hb15.block q hq)
     clear bp14 bq14 br14 kW14 xI14 bX14 yI14 bY14 zI14 bZ14 gI14
     clear hv1
     obtain ⟨cZ0,cZ1,cZ2,cZ3,cZ4⟩:=bZ15.c5
     obtain ⟨cr0,cr1,cr2,cr3,cr4⟩:=br15.c5
     have hlZ:=bZ15.lt
     have hlr:=br15.lt
     go_wp2_with fail
     go_region_held3 (fun x=>x.cell? ⟨w10.heap.size,0,none⟩=some (.int .i64 t''.kind)∧x.cell? ⟨w10.heap.size,1,none⟩=some (.int .i64 t''.num)∧x.cell? ⟨w10.heap.size,2,none⟩=some (.string t''.name)∧x.cell? ⟨w10.heap.size,3,none⟩=some (.slice L5 t''.labels.length l5)∧x.cell? ⟨w10.heap.size,4,none⟩=some (.slice A5 t''.args.length a5)∧x.cell? ⟨w.heap.size+1+1,0,none⟩=some (.int .i64 t''.kind)∧x.cell? ⟨w.heap.size+1+1,1,none⟩=some (.int .i64 t''.num)∧x.cell? ⟨w.heap.size+1+1,2,none⟩=some (.string t''.name)∧x.cell? ⟨w.heap.size+1+1,3,none⟩=some (.slice L2 t''.labels.length l2)∧x.cell? ⟨w.heap.size+1+1,4,none⟩=some (.slice A2 t''.args.length a2)∧Below w15.heap.size w15 x) ((first | exact ⟨cZ0,cZ1,cZ2,cZ3,cZ4,cr0,cr1,cr2,cr3,cr4,(Below.refl _ _).drew⟩ | exact ⟨r0_0,r0_1,r0_2,r0_3,r0_4,r0_5,r0_6,r0_7,r0_8,r0_9,hR0⟩ | exact ⟨r1_0,r1_1,r1_2,r1_3,r1_4,r1_5,r1_6,r1_7,r1_8,r1_9,hb16⟩))
      (first | (go_at_call 37;refine (HV.out _ (((hv0.lift cb15).more cb15.size).up (Below.refl w15.heap.size w15).drew)).mono ?_;rintro e wR0 ⟨v1,rfl,hv1,hN0⟩;have hR0:=(Below.refl w15.heap.size w15).drew.trans (hN0.mono (Below.refl w15.heap.size w15).drew.size);have r0_0:=(kC hR0 cZ0 hlZ);have r0_1:=(kC hR0 cZ1 hlZ);have r0_2:=(kC hR0 cZ2 hlZ);have r0_3:=(kC hR0 cZ3 hlZ);have r0_4:=(kC hR0 cZ4 hlZ);have r0_5:=(kC hR0 cr0 hlr);have r0_6:=(kC hR0 cr1 hlr);have r0_7:=(kC hR0 cr2 hlr);have r0_8:=(kC hR0 cr3 hlr);have r0_9:=(kC hR0 cr4 hlr)) | (go_at_call 41;refine (HEv.out _ v1 _ (zI15.here.up hR0) hv1.here).mono ?_;rintro e w16 ⟨rfl,hN1⟩;have hb16:=hR0.trans (hN1.mono hR0.size);have r1_0:=(kC hb16 cZ0 hlZ);have r1_1:=(kC hb16 cZ1 hlZ);have r1_2:=(kC hb16 cZ2 hlZ);have r1_3:=(kC hb16 cZ3 hlZ);have r1_4:=(kC hb16 cZ4 hlZ);have r1_5:=(kC hb16 cr0 hlr);have r1_6:=(kC hb16 cr1 hlr);have r1_7:=(kC hb16 cr2 hlr);have r1_8:=(kC hb16 cr3 hlr);have r1_9:=(kC hb16 cr4 hlr)))
     clear cZ0 cZ1 cZ2 cZ3 cZ4 cr0 cr1 cr2 cr3 cr4
     have cb16:=cb15.trans (hb16.mono cb15.size)
     have sz16:=hb16.size
     have bp16:=bp15.below hb16 bp15.lt
     have bq16:=bq15.below hb16 bq15.lt
     have br16:=br15.below hb16 br15.lt
     have kW16:=kW15.trans (hb16.mono kW15.size)
     have xI16:=xI15.keep (fun q _ hq=>hb16.block q hq)
     have bX16:=bX15.below hb16 bX15.lt
     have yI16:=yI15.keep (fun q _ hq=>hb16.block q hq)
     have bY16:=bY15.below hb16 bY15.lt
     have zI16:=zI15.keep (fun q _ hq=>hb16.block q hq)
     have bZ16:=bZ15.below hb16 bZ15.lt
     have gI16:=gI15.keep (fun q _ hq=>hb16.block q hq)
     clear bp15 bq15 br15 kW15 xI15 bX15 yI15 bY15 zI15 bZ15 gI15
     clear hv1
     obtain ⟨cX0,cX1,cX2⟩:=bX16.c3
     go_wp2_with fail
     clear cX0 cX1 cX2
     refine (markType_any t _ _ 1 w16 xI16 (by omega) (by omega) (fun q hq=>by have:=hq.2;omega)).mono ?_
     rintro e w17 ⟨rfl,_,ho17⟩
     have sz17:=ho17.size
     have cb17:=OnlyIn.below cb16 ho17 cb16.size (fun q hq=>by have:=hq.1;omega)
     have bp17:Whole1 w17 (w.heap.size) _ _:=(ho17.block (w.heap.size) bp16.lt (fun h=>by have:=h.1;have:=h.2;omega)).trans bp16
     have bq17:Whole1 w17 (w.heap.size+1) _ _:=(ho17.block (w.heap.size+1) bq16.lt (fun h=>by have:=h.1;have:=h.2;omega)).trans bq16
     have br17:Whole1 w17 (w.heap.size+1+1) _ _:=(ho17.block (w.heap.size+1+1) br16.lt (fun h=>by have:=h.1;have:=h.2;omega)).trans br16
     have bY17:Whole1 w17 (w8.heap.size) _ _:=(ho17.block (w8.heap.size) bY16.lt (fun h=>by have:=h.1;have:=h.2;omega)).trans bY16
     have bZ17:Whole1 w17 (w10.heap.size) _ _:=(ho17.block (w10.heap.size) bZ16.lt (fun h=>by have:=h.1;have:=h.2;omega)).trans bZ16
     have gI17:=gI16.keep (fun q hq hlt=>ho17.block q hlt (fun h=>by have:=hq.1;have:=hq.2;have:=h.1;have:=h.2;omega))
     have yI17:=yI16.keep (fun q hq hlt=>ho17.block q hlt (fun h=>by have:=hq.1;have:=hq.2;have:=h.1;have:=h.2;omega))
     have zI17:=zI16.keep (fun q hq hlt=>ho17.block q hlt (fun h=>by have:=hq.1;have:=hq.2;have:=h.1;have:=h.2;omega))
     have kW17:=OnlyIn.below kW16 ho17 kW16.size (fun q hq=>by have:=hq.1;omega)
     clear bp16 bq16 br16 kW16 xI16 bX16 yI16 bY16 zI16 bZ16 gI16
     obtain ⟨cY0,cY1,cY2,cY3⟩:=bY17.c4
     go_wp2_with fail
     clear cY0 cY1 cY2 cY3
     refine (markOptic_any t' _ _ (1+cntTy t) w17 yI17 (by omega) (by omega)).mono ?_
     rintro e w18 ⟨rfl,_,ho18⟩
     have sz18:=ho18.size
     have cb18:=OnlyIn.below cb17 ho18 cb17.size (fun q hq=>by have:=hq.1;omega)
     have bp18:Whole1 w18 (w.heap.size) _ _:=(ho18.block (w.heap.size) bp17.lt (fun h=>by have:=h.1;have:=h.2;omega)).trans bp17
     have bq18:Whole1 w18 (w.heap.size+1) _ _:=(ho18.block (w.heap.size+1) bq17.lt (fun h=>by have:=h.1;have:=h.2;omega)).trans bq17
     have br18:Whole1 w18 (w.heap.size+1+1) _ _:=(ho18.block (w.heap.size+1+1) br17.lt (fun h=>by have:=h.1;have:=h.2;omega)).trans br17
     have bZ18:Whole1 w18 (w10.heap.size) _ _:=(ho18.block (w10.heap.size) bZ17.lt (fun h=>by have:=h.1;have:=h.2;omega)).trans bZ17
     have gI18:=gI17.keep (fun q hq hlt=>ho18.block q hlt (fun h=>by have:=hq.1;have:=hq.2;have:=h.1;have:=h.2;omega))
     have zI18:=zI17.keep (fun q hq hlt=>ho18.block q hlt (fun h=>by have:=hq.1;have:=hq.2;have:=h.1;have:=h.2;omega))
     have kW18:=OnlyIn.below kW17 ho18 kW17.size (fun q hq=>by have:=hq.1;omega)
     clear bp17 bq17 br17 bY17 bZ17 gI17 yI17 zI17 kW17
     obtain ⟨cZ0,cZ1,cZ2,cZ3,cZ4⟩:=bZ18.c5
     go_wp2_with fail
     clear cZ0 cZ1 cZ2 cZ3 cZ4
     refine (markValue_any t'' _ _ (1+cntTy t+cntOt t') w18 zI18 (by omega) (by omega) (fun q hq=>by have:=hq.2;omega)).mono ?_
     rintro e w19 ⟨rfl,_,ho19⟩
     have sz19:=ho19.size
     have cb19:=OnlyIn.below cb18 ho19 cb18.size (fun q hq=>by have:=hq.1;omega)
     have bp19:Whole1 w19 (w.heap.size) _ _:=(ho19.block (w.heap.size) bp18.lt (fun h=>by have:=h.1;have:=h.2;omega)).trans bp18
     have bq19:Whole1 w19 (w.heap.size+1) _ _:=(ho19.block (w.heap.size+1) bq18.lt (fun h=>by have:=h.1;have:=h.2;omega)).trans bq18
     have br19:Whole1 w19 (w.heap.size+1+1) _ _:=(ho19.block (w.heap.size+1+1) br18.lt (fun h=>by have:=h.1;have:=h.2;omega)).trans br18
     have gI19:=gI18.keep (fun q hq hlt=>ho19.block q hlt (fun h=>by have:=hq.1;have:=hq.2;have:=h.1;have:=h.2;omega))
     have kW19:=OnlyIn.below kW18 ho19 kW18.size (fun q hq=>by have:=hq.1;omega)
     clear bp18 bq18 br18 bZ18 gI18 zI18 kW18
     go_wp2_with fail
     refine (HEl.out A7 A6 c7 c6 w19 gI19.here ((hwT.below kW19).more kW19.size)).mono ?_
     rintro e w20 ⟨rfl,hb20⟩
     have cb20:=cb19.trans (hb20.mono cb19.size)
     have sz20:=hb20.size
     have bp20:=bp19.below hb20 bp19.lt
     have bq20:=bq19.below hb20 bq19.lt
     have br20:=br19.below hb20 br19.lt
     have gI20:=gI19.keep (fun q _ hq=>hb20.block q hq)
     have kW20:=kW19.trans (hb20.mono kW19.size)
     clear bp19 bq19 br19 gI19 kW19
     go_wp2_with fail
     refine (markValueS_of l (fun i _=>markVMany_any l[i]) _ A7 c7 1 w20 gI20 (by omega) (by omega)).mono ?_
     rintro e w21 ⟨rfl,gM21,ho21⟩
     have sz21:=ho21.size
     have cb21:=OnlyIn.below cb20 ho21 cb20.size (fun q hq=>by have:=hq.1;omega)
     have bp21:Whole1 w21 (w.heap.size) _ _:=(ho21.block (w.heap.size) bp20.lt (fun h=>by have:=h.1;have:=h.2;omega)).trans bp20
     have bq21:Whole1 w21 (w.heap.size+1) _ _:=(ho21.block (w.heap.size+1) bq20.lt (fun h=>by have:=h.1;have:=h.2;omega)).trans bq20
     have br21:Whole1 w21 (w.heap.size+1+1) _ _:=(ho21.block (w.heap.size+1+1) br20.lt (fun h=>by have:=h.1;have:=h.2;omega)).trans br20
     have kW21:=OnlyIn.below kW20 ho21 kW20.size (fun q hq=>by have:=hq.1;omega)
     clear bp20 bq20 br20 gI20 kW20
     go_wp2_with fail
     refine (heldValueS_of l (fun i _=>heldVMany_any l[i]) A7 c7 1 w21 gM21.here (by omega) (by omega)).mono ?_
     rintro e w22 ⟨rfl,hb22⟩
     have cb22:=cb21.trans (hb22.mono cb21.size)
     have sz22:=hb22.size
     have bp22:=bp21.below hb22 bp21.lt
     have bq22:=bq21.below hb22 bq21.lt
     have br22:=br21.below hb22 br21.lt
     have kW22:=kW21.trans (hb22.mono kW21.size)
     have gM22:=gM21.keep (fun q _ hq=>hb22.block q hq)
     clear bp21 bq21 br21 kW21 gM21
     have hU22:=hU0.below cb22
     have hJ22:=hJ0.below cb22
     have hF22:=hF0.below cb22
     obtain ⟨cp0,cp1,cp2⟩:=bp22.c3
     obtain ⟨cq0,cq1,cq2,cq3⟩:=bq22.c4
     obtain ⟨cr0,cr1,cr2,cr3,cr4⟩:=br22.c5
     have hlp:=bp22.lt
     have hlq:=bq22.lt
     have hlr:=br22.lt
     have hD:=(Below.refl w22.heap.size w22).drew
     go_upto_region 38 with fail
     go_cut [18,19] (fun r0 r1 wx=>(∃ A c,r0=.slice A l.length c∧r1=.bool ok∧VasAt wx wx.heap.size A l)∧Below w22.heap.size w22 wx)
     case first=>
      have t_0:=dC cp0
      have t_1:=dC cp1
      have t_2:=dC cp2
      have t_3:=dC cq0
      have t_4:=dC cq1
      have t_5:=dC cq2
      have t_6:=dC cq3
      have t_7:=dC cr0
      have t_8:=dC cr1
      have t_9:=dC cr2
      have t_10:=dC cr3
      have t_11:=dC cr4
      go_region_held3 (fun x=>x.cell? ⟨w.heap.size,0,none⟩=some (.int .i64 t.kind)∧x.cell? ⟨w.heap.size,1,none⟩=some (.slice L0 t.labels.length l0)∧x.cell? ⟨w.heap.size,2,none⟩=some (.slice A0 t.args.length a0)∧x.cell? ⟨w.heap.size+1,0,none⟩=some (.int .i64 t'.kind)∧x.cell? ⟨w.heap.size+1,1,none⟩=some (.string t'.name)∧x.cell? ⟨w.heap.size+1,2,none⟩=some (.int .i64 t'.num)∧x.cell? ⟨w.heap.size+1,3,none⟩=some (.slice A1 t'.args.length a1)∧x.cell? ⟨w.heap.size+1+1,0,none⟩=some (.int .i64 t''.kind)∧x.cell? ⟨w.heap.size+1+1,1,none⟩=some (.int .i64 t''.num)∧x.cell? ⟨w.heap.size+1+1,2,none⟩=some (.string t''.name)∧x.cell? ⟨w.heap.size+1+1,3,none⟩=some (.slice L2 t''.labels.length l2)∧x.cell? ⟨w.heap.size+1+1,4,none⟩=some (.slice A2 t''.args.length a2)∧Below w22.heap.size w22 x) ((first | (with_reducible exact ⟨t_0,t_1,t_2,t_3,t_4,t_5,t_6,t_7,t_8,t_9,t_10,t_11,hD⟩) | (with_reducible exact ⟨s0_0_0,s0_0_1,s0_0_2,s0_0_3,s0_0_4,s0_0_5,s0_0_6,s0_0_7,s0_0_8,s0_0_9,s0_0_10,s0_0_11,hP0_0⟩) | (with_reducible exact ⟨s0_1_0,s0_1_1,s0_1_2,s0_1_3,s0_1_4,s0_1_5,s0_1_6,s0_1_7,s0_1_8,s0_1_9,s0_1_10,s0_1_11,hP0_1⟩) | (with_reducible exact ⟨s0_2_0,s0_2_1,s0_2_2,s0_2_3,s0_2_4,s0_2_5,s0_2_6,s0_2_7,s0_2_8,s0_2_9,s0_2_10,s0_2_11,hP0_2⟩) | (with_reducible exact ⟨s0_3_0,s0_3_1,s0_3_2,s0_3_3,s0_3_4,s0_3_5,s0_3_6,s0_3_7,s0_3_8,s0_3_9,s0_3_10,s0_3_11,hP0_3⟩)))
       (first | (go_at_call 35;(with_reducible refine (HT.out _ (((ha0.lift cb22).more cb22.size).up hD)).mono ?_);rintro e wP0_0 ⟨v1,rfl,hv1,hN0_0⟩;have hP0_0:=hD.trans (hN0_0.mono hD.size);have s0_0_0:=(kC hP0_0 cp0 hlp);have s0_0_1:=(kC hP0_0 cp1 hlp);have s0_0_2:=(kC hP0_0 cp2 hlp);have s0_0_3:=(kC hP0_0 cq0 hlq);have s0_0_4:=(kC hP0_0 cq1 hlq);have s0_0_5:=(kC hP0_0 cq2 hlq);have s0_0_6:=(kC hP0_0 cq3 hlq);have s0_0_7:=(kC hP0_0 cr0 hlr);have s0_0_8:=(kC hP0_0 cr1 hlr);have s0_0_9:=(kC hP0_0 cr2 hlr);have s0_0_10:=(kC hP0_0 cr3 hlr);have s0_0_11:=(kC hP0_0 cr4 hlr)) | (go_at_call 36;(with_reducible refine (HO.out _ (((hd0.lift cb22).more cb22.size).up hP0_0)).mono ?_);rintro e wP0_1 ⟨v2,rfl,hv2,hN0_1⟩;have hP0_1:=hP0_0.trans (hN0_1.mono hP0_0.size);have s0_1_0:=(kC hP0_1 cp0 hlp);have s0_1_1:=(kC hP0_1 cp1 hlp);have s0_1_2:=(kC hP0_1 cp2 hlp);have s0_1_3:=(kC hP0_1 cq0 hlq);have s0_1_4:=(kC hP0_1 cq1 hlq);have s0_1_5:=(kC hP0_1 cq2 hlq);have s0_1_6:=(kC hP0_1 cq3 hlq);have s0_1_7:=(kC hP0_1 cr0 hlr);have s0_1_8:=(kC hP0_1 cr1 hlr);have s0_1_9:=(kC hP0_1 cr2 hlr);have s0_1_10:=(kC hP0_1 cr3 hlr);have s0_1_11:=(kC hP0_1 cr4 hlr)) | (go_at_call 37;(with_reducible refine (HV.out _ (((hv0.lift cb22).more cb22.size).up hP0_1)).mono ?_);rintro e wP0_2 ⟨v3,rfl,hv3,hN0_2⟩;have hP0_2:=hP0_1.trans (hN0_2.mono hP0_1.size);have s0_2_0:=(kC hP0_2 cp0 hlp);have s0_2_1:=(kC hP0_2 cp1 hlp);have s0_2_2:=(kC hP0_2 cp2 hlp);have s0_2_3:=(kC hP0_2 cq0 hlq);have s0_2_4:=(kC hP0_2 cq1 hlq);have s0_2_5:=(kC hP0_2 cq2 hlq);have s0_2_6:=(kC hP0_2 cq3 hlq);have s0_2_7:=(kC hP0_2 cr0 hlr);have s0_2_8:=(kC hP0_2 cr1 hlr);have s0_2_9:=(kC hP0_2 cr2 hlr);have s0_2_10:=(kC hP0_2 cr3 hlr);have s0_2_11:=(kC hP0_2 cr4 hlr)) | (go_at_call 21;(with_reducible refine (HI2.out _ _ _ _ ((OwnT.of hv1).up (hN0_1.trans (hN0_2.mono hN0_1.size))) ((OwnO.of hv2).up hN0_2) (OwnV.of hv3) (hU22.below hP0_2) (hJ22.below hP0_2) (hF22.below hP0_2)).mono ?_);rintro e wP0_3 ⟨A8,c8,rfl,hs8,hN0_3⟩;have hP0_3:=hP0_2.trans (hN0_3.mono hP0_2.size);have s0_3_0:=(kC hP0_3 cp0 hlp);have s0_3_1:=(kC hP0_3 cp1 hlp);have s0_3_2:=(kC hP0_3 cp2 hlp);have s0_3_3:=(kC hP0_3 cq0 hlq);have s0_3_4:=(kC hP0_3 cq1 hlq);have s0_3_5:=(kC hP0_3 cq2 hlq);have s0_3_6:=(kC hP0_3 cq3 hlq);have s0_3_7:=(kC hP0_3 cr0 hlr);have s0_3_8:=(kC hP0_3 cr1 hlr);have s0_3_9:=(kC hP0_3 cr2 hlr);have s0_3_10:=(kC hP0_3 cr3 hlr);have s0_3_11:=(kC hP0_3 cr4 hlr)))
      all_goals go_wp2
      all_goals go_meet
      all_goals first | exact ⟨⟨A8,c8,rfl,rfl,hs8.here⟩,hP0_3⟩
     case rest=>
      obtain ⟨⟨A8,c8,rfl,rfl,hhT⟩,hb23⟩:=hcut
      have hw23:wc=wc:=rfl
      clear hw23
      clear hD
      generalize wc=w23 at *
      clear cp0 cp1 cp2 cq0 cq1 cq2 cq3 cr0 cr1 cr2 cr3 cr4
      have cb23:=cb22.trans (hb23.mono cb22.size)
      have sz23:=hb23.size
      have bp23:=bp22.below hb23 bp22.lt
      have bq23:=bq22.below hb23 bq22.lt
      have br23:=br22.below hb23 br22.lt
      have kW23:=kW22.trans (hb23.mono kW22.size)
      have gM23:=gM22.keep (fun q _ hq=>hb23.block q hq)
      clear bp22 bq22 br22 kW22 gM22
      go_wp2_with fail
      refine (HEl.out A8 A6 c8 c6 w23 hhT ((hwT.below kW23).more kW23.size)).mono ?_
      rintro e w24 ⟨rfl,hb24⟩
      have cb24:=cb23.trans (hb24.mono cb23.size)
      have sz24:=hb24.size
      have bp24:=bp23.below hb24 bp23.lt
      have bq24:=bq23.below hb24 bq23.lt
      have br24:=br23.below hb24 br23.lt
      have kW24:=kW23.trans (hb24.mono kW23.size)
      have gM24:=gM23.keep (fun q _ hq=>hb24.block q hq)
      clear bp23 bq23 br23 kW23 gM23
      go_wp2_with fail
      refine (heldValueS_of l (fun i _=>heldVMany_any l[i]) A7 c7 1 w24 gM24.here (by omega) (by omega)).mono ?_
      rintro e w25 ⟨rfl,hb25⟩
      have cb25:=cb24.trans (hb25.mono cb24.size)
      have sz25:=hb25.size
      have bp25:=bp24.below hb25 bp24.lt
      have bq25:=bq24.below hb25 bq24.lt
      have br25:=br24.below hb25 br24.lt
      have kW25:=kW24.trans (hb25.mono kW24.size)
      have gM25:=gM24.keep (fun q _ hq=>hb25.block q hq)
      clear bp24 bq24 br24 kW24 gM24
      go_wp2
      go_ret
      exact ⟨rfl,cb25⟩
theorem own:ownKnob Tryz.prog.godebug=none:=by kernel_rfl
theorem laidOut:laidOutB Tryz.prog=true:=by kernel_rfl
def laid:List (String×DataW Unit):=Rows.fnExactFociRow.laid
set_option maxRecDepth 100000 in
theorem lifted (os:Os) (started:os.Started) (H:Type) (enc:TypeId×Value→H):
  ReturnsInHanded {} Tryz.checked os 5 .any (fun w args=>(Rows.fnExactFociSpec.pre enc Tryz.prog Tryz.f5 [] false w args∧laidMetH Tryz.prog laid w)∧sizedMet enc Tryz.prog Tryz.f5 (OpenSpec.ofChange Rows.fnExactFociSpec) false w args)
   (Rows.fnExactFociSpec.post enc Tryz.prog Tryz.f5 false true false false):=by
 refine law_lifted_vars (C:=Tryz.checked) (bt:=4) own laidOut started (by kernel_rfl) Tryz.func5 (by kernel_rfl) rfl Tryz.underlying4 (by kernel_rfl) ?_
  (ChangeSpec.witness_shaped (enc:=enc) (C:=Tryz.checked) (os:=os) (X:=fun w _=>laidMetH Tryz.prog laid w) false (World.laidAll Tryz.prog os laid) #[.agg #[.int .i64 0,.slice none 0 0,.slice none 0 0],.agg #[.int .i64 0,.string ⟨#[]⟩,.int .i64 0,.slice none 0 0],.agg #[.int .i64 0,.int .i64 0,.string ⟨#[]⟩,.slice none 0 0,.slice none 0 0]] 8 (World.laidAll_os _ _ _) (World.shaped_of_ZipB (by kernel_rfl) (by kernel_rfl)) (by kernel_rfl) (by kernel_rfl) (by kernel_rfl)
   (by rw [MakeChecks.laidMetH_plain _ _ _ (by kernel_rfl)];exact laidMet_laidAll _ (by kernel_rfl) (by kernel_rfl))) ?_
 ·intro ds gs hd hg
  have h1:ds.length=3:=hd
  have h2:gs.length=3:=hg
  match ds,gs,h1,h2 with
  | [d1,d2,d3],[g1,g2,g3],_,_=>rfl
 ·intro W base args ds p hval0 hA0 hlt hL hsh
  have hval:∀ (j:Nat) t v,Tryz.f5.params[j]?=some t→args[j]?=some v→Value.okWide Tryz.prog W .any base t v:=hval0
  have hA:DataW.TrodAll enc Tryz.prog W 0 (fun _=>true) true Tryz.f5.params.toList args.toList ds p:=hA0
  rw [Tryz.params5] at hA hval
  obtain ⟨v0,v1,v2,d0,d1,d2,p0,p1,p2,rfl,rfl,rfl,h0,h1,h2⟩:=trodAll_three hA
  obtain ⟨a0,ra0⟩:=open_type_arg (hval 0 57 v0 rfl rfl) h0 (fun x hx=>hlt x (by simp [hx]))
  obtain ⟨a1,ra1⟩:=open_optic_arg (hval 1 60 v1 rfl rfl) h1 (fun x hx=>hlt x (by simp [hx]))
  obtain ⟨a2,ra2,na2⟩:=open_value_arg (hval 2 63 v2 rfl rfl) h2 (fun x hx=>hlt x (by simp [hx]))
  rw [MakeChecks.laidMetH_plain _ _ _ (by kernel_rfl)] at hL
  obtain ⟨_,hUU⟩:=unfitAt_of (r:=[]) (laidMet.tail (x:=("loop.example/g00592/impl.kindJoins",Rows.laid_loop_example_g00592_impl_kindJoins)) (laidMet.tail (x:=("loop.example/g00592/impl.valueForms",Rows.laid_loop_example_g00592_impl_valueForms)) hL))
  exact walk a0 a1 a2 v0 v1 v2 W ra0 ra1 ra2 hUU (joinsAt_of (L:=laid) (by unfold laid;exact List.mem_cons_of_mem _ List.mem_cons_self) hL) (formsAt_of (L:=laid) (by unfold laid;exact List.mem_cons_self) hL) na2
theorem over:Rows.FnExactFociSaid:=
 OpenClaim.holds_of_wide 5 Tryz.f5 rfl rfl rfl rfl rfl rfl rfl ⟨rfl,rfl,rfl,rfl,rfl⟩ rfl rfl rfl rfl rfl (by kernel_rfl) Tryz.func5 (by kernel_rfl)
  (of_decide_eq_true (by kernel_rfl)) (by unfold Func.isWrapper;rw [if_neg (of_decide_eq_false (by kernel_rfl))];exact ⟨rfl,rfl⟩)
  (fun os started H enc _=>lifted os started H enc)
theorem proved:Rows.FnExactFociCardSaid:=
 Claim7.holds_tied_plain_at .later [] Rows.fnExactFociCard.laidKinds true Rows.fnExactFociCard.stood.harness Rows.fnExactFociCard.stood.looks
  over (fun _ h=>by cases h) (by kernel_rfl) (fun _ h=>by cases h) fnExactFoci_row_tie rfl ⟨rfl,rfl⟩ (by kernel_rfl) rfl
  (fun f fn hf hfn=>by
   obtain rfl:f=5:=Option.some.inj ((show Tryz.prog.funcNamed "loop.example/g00592/laws.FnExactFoci"=some 5 by kernel_rfl).symm.trans hf) |>.symm
   obtain rfl:fn=Tryz.f5:=(Option.some.inj (Tryz.func5.symm.trans hfn)).symm
   exact ⟨by kernel_rfl,fun j t ht=>by
    rw [Tryz.params5] at ht
    have hm:=Array.mem_of_getElem? ht
    have hall:(#[57,60,63].toList.all fun u=>!Tryz.prog.wantsStandIn u)=true:=by kernel_rfl
    exact (show Tryz.prog.wantsStandIn t=false by simpa using List.all_eq_true.1 hall t (by simpa using hm))⟩)
  (by kernel_rfl)
end Go.Proofs.YtfnblkcmcfofoaaGreatDoor.lawFoci
