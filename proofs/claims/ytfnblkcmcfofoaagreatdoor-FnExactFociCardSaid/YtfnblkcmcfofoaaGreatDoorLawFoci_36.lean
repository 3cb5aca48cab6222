/- Lemmas: TypTwo. -/
import Derived.Test.YtfnblkcmcfofoaaGreatDoorLawFoci_30
import Derived.Test.YtfnblkcmcfofoaaGreatDoorLawFoci_19
import Derived.Test.YtfnblkcmcfofoaaGreatDoorLawFoci_31
import Derived.Test.YtfnblkcmcfofoaaGreatDoorLawFoci_35
import Derived.Deep.RegionHeld3
import Derived.Deep.RegionWith
import Derived.StillTailTactics

namespace Go.Proofs.YtfnblkcmcfofoaaGreatDoor
set_option maxRecDepth 100000
set_option linter.unusedSimpArgs false
open Go.RowKit
attribute [local go_sem ↓] Go.wp_at_zero Go.wp_at_succ
def TypOne (o:Ot):Prop:=∀ (N:Nat→Prop) (u:Value) (r:Option (Ty×Int)) (s:Ty) (sv ov:Value) (w:World),(∀ b,N b→b<w.heap.size)→UnfitAt w u→JoinsAt w→OwnA N w sv s→OtAt w w.heap.size ov o→validB s=true→formOt o=true→szOt o≤1048576→r=typeO o s→
 Calls Tryz.prog 100 #[sv,ov] w (TypPost N u r w)
set_option maxHeartbeats 4000000 in
theorem typThen_any (o1 o2:Ot) (h1:TypOne o1) (h2:TypOne o2) {N:Nat→Prop} {u:Value} {r:Option (Ty×Int)} (s:Ty) (sv v1 v2:Value) (w:World) (hN:∀ b,N b→b<w.heap.size) (hU:UnfitAt w u) (hJ:JoinsAt w) (hv:OwnA N w sv s) (ho1:OtAt w w.heap.size v1 o1) (ho2:OtAt w w.heap.size v2 o2)
  (hval:validB s=true) (f1:formOt o1=true) (f2:formOt o2=true) (z1:szOt o1≤1048576) (z2:szOt o2≤1048576) (hr:r=thenO (typeO o1) (typeO o2) s):
  Calls Tryz.prog 181 #[sv,v1,v2] w (TypPost N u r w):=by
 obtain ⟨L,lc,A,ac,rfl⟩:=hv.open
 obtain ⟨B1,bc1,rfl,_⟩:=ho1.open
 obtain ⟨B2,bc2,rfl,_⟩:=ho2.open
 obtain ⟨hb0,p0,q0,q0',zz0⟩:=boxes4 w 27 30 30 83 #[.int .i64 s.kind,.slice L s.labels.length lc,.slice A s.args.length ac] #[.int .i64 o1.kind,.string o1.name,.int .i64 o1.num,.slice B1 o1.args.length bc1] #[.int .i64 o2.kind,.string o2.name,.int .i64 o2.num,.slice B2 o2.args.length bc2] #[.int .i64 0,.slice none 0 0,.slice none 0 0,.int .i64 0]
 have hv0:=(hv.late (w.heap.size+1+1+1) (by omega)).up hb0
 have ho1':=ho1.up hb0
 have ho2':=ho2.up hb0
 have hN0:∀ b,(N b∨b=w.heap.size+1+1+1)→b<((((w.alloc (.cells #[.int .i64 s.kind,.slice L s.labels.length lc,.slice A s.args.length ac] 27)).alloc (.cells #[.int .i64 o1.kind,.string o1.name,.int .i64 o1.num,.slice B1 o1.args.length bc1] 30)).alloc (.cells #[.int .i64 o2.kind,.string o2.name,.int .i64 o2.num,.slice B2 o2.args.length bc2] 30)).alloc (.cells #[.int .i64 0,.slice none 0 0,.slice none 0 0,.int .i64 0] 83)).heap.size:=fun b hb=>hb.elim (fun hb=>Nat.lt_of_lt_of_le (hN b hb) hb0.size) (fun e=>e ▸ zz0.lt)
 have HU0:=Lib.hid (hU.below hb0)
 have HJ0:=Lib.hid (hJ.below hb0)
 obtain ⟨hug,huc,ua,rfl⟩:=hU
 obtain ⟨r1,hr1⟩:∃ x,x=typeO o1 s:=⟨_,rfl⟩
 have HC1:=Lib.hid (h1 (fun b=>N b∨b=w.heap.size+1+1+1) _ r1 s _ _ _ hN0 HU0.out HJ0.out hv0 ho1' hval f1 z1 hr1)
 have HR:=Lib.hid hr
 have HR1:=Lib.hid hr1
 clear hv hN hr hr1 hJ hug huc ho1 ho2 ho1' f1 z1 hv0 hval h1
 go_enter Tryz.func181,Tryz.ntmps181
 go_wp2_with fail
 generalize (((w.alloc (.cells #[.int .i64 s.kind,.slice L s.labels.length lc,.slice A s.args.length ac] 27)).alloc (.cells #[.int .i64 o1.kind,.string o1.name,.int .i64 o1.num,.slice B1 o1.args.length bc1] 30)).alloc (.cells #[.int .i64 o2.kind,.string o2.name,.int .i64 o2.num,.slice B2 o2.args.length bc2] 30)).alloc (.cells #[.int .i64 0,.slice none 0 0,.slice none 0 0,.int .i64 0] 83)=w0 at *
 refine HC1.out.mono ?_
 rintro e w1 ⟨L1,lc1,A1,ac1,t1,k1,x1,rfl,hv1,hb1,hs1,hor⟩
 clear HC1
 have hx1:=(Below.refl w1.heap.size w1).alloc (Nat.le_refl _) (.cells #[.int .i64 t1.kind,.slice L1 t1.labels.length lc1,.slice A1 t1.args.length ac1,.int .i64 k1] 83)
 have hc1:=hb1
 have hd1:=hc1.trans (hx1.mono hc1.size)
 have hv1x:=hv1.up hx1
 have n1:Whole1 (w1.alloc (.cells #[.int .i64 t1.kind,.slice L1 t1.labels.length lc1,.slice A1 t1.args.length ac1,.int .i64 k1] 83)) w1.heap.size 83 #[.int .i64 t1.kind,.slice L1 t1.labels.length lc1,.slice A1 t1.args.length ac1,.int .i64 k1]:=Whole1.new _ _ _
 have zzx1:=zz0.below hd1 zz0.lt
 have HB1:=Lib.hid (hb0.trans (hd1.mono hb0.size))
 have HUU1:=Lib.hid (HU0.out.below hd1)
 have HJJ1:=Lib.hid (HJ0.out.below hd1)
 go_upto_region 2 with fail
 generalize (w1.alloc (.cells #[.int .i64 t1.kind,.slice L1 t1.labels.length lc1,.slice A1 t1.args.length ac1,.int .i64 k1] 83))=W1 at *
 rcases hor with ⟨rn,rfl⟩ | ⟨rs,rfl⟩
 ·have HRN:=Lib.hid (HR.out.trans (thenO_none (HR1.out.symm.trans rn)))
  have HF:=Lib.hid (typ_none0 (N:=N) (u:=(.iface 246 (.pointer (some ua)))) HB1.out HRN.out)
  have HG:=Lib.hid (fun a b c d=>(typ_none4 (N:=N) (u:=(.iface 246 (.pointer (some ua)))) (show w.heap.size≤w.heap.size+1+1+1 by omega) HB1.out HRN.out a b c d))
  obtain ⟨d0,d1,d2,d3⟩:=zzx1.c4
  obtain ⟨df0,df1,df2,df3⟩:=zzx1.f4
  clear hb1 hb0 hx1 hc1 hd1 hv1 hv1x n1 zzx1 zz0 p0 q0 q0' hs1 rn HB1 HUU1 HJJ1 HRN hN0 ho2' h2 f2 z2 HU0 HJ0 HR HR1
  go_wp2
  first | exact bodyPost_ret (v:=.tuple #[.agg #[.int .i64 0,.slice none 0 0,.slice none 0 0,.int .i64 0],.iface 246 (.pointer (some ua))]) (by simp [results,Tryz.results181,go_sem,d0,d1,d2,d3]) rfl HF.out | exact bodyPost_ret (v:=.tuple #[.agg #[.int .i64 0,.slice none 0 0,.slice none 0 0,.int .i64 0],.iface 246 (.pointer (some ua))]) (by simp [results,Tryz.results181,go_sem,d0,d1,d2,d3]) rfl (HG.out _ _ _ _)
 ·have hval1:=typeO_valid (HR1.out.symm.trans rs)
  obtain ⟨r2,hr2⟩:∃ x,x=typeO o2 t1:=⟨_,rfl⟩
  have HRS:=Lib.hid (HR1.out.symm.trans rs)
  have HR2:=Lib.hid hr2
  have HN1:=Lib.hid (show ∀ b,(N b∨b=w.heap.size+1+1+1)→b<W1.heap.size from fun b hb=>Nat.lt_of_lt_of_le (hN0 b hb) hd1.size)
  have HC2:=Lib.hid (h2 (fun b=>N b∨b=w.heap.size+1+1+1) _ r2 t1 _ _ W1 HN1.out HUU1.out HJJ1.out hv1x (ho2'.up hd1) hval1 f2 z2 hr2)
  have qq:=q0'.below hd1 q0'.lt
  have HN:=Lib.hid n1
  have HD1:=Lib.hid hd1
  have HS1:=Lib.hid hs1
  obtain ⟨m0,m1,m2,m3⟩:=n1.c4
  obtain ⟨qo0,qo1,qo2,qo3⟩:=qq.c4
  clear hval1 hr2 hb1 hx1 hd1 hv1 hv1x n1 zzx1 p0 q0 q0' hs1 rs HB1 HUU1 HJJ1 HN1 hN0 ho2' h2 f2 z2 qq
  go_wp2_with fail
  refine HC2.out.mono ?_
  rintro e w2 ⟨L2,lc2,A2,ac2,t2,k2,x2,rfl,hv2,hb2,hs2,hor2⟩
  clear m0 m1 m2 m3 qo0 qo1 qo2 qo3 HC2
  have hx2:=(Below.refl w2.heap.size w2).alloc (Nat.le_refl _) (.cells #[.int .i64 t2.kind,.slice L2 t2.labels.length lc2,.slice A2 t2.args.length ac2,.int .i64 k2] 83)
  have hc2:=HD1.out.trans (hb2.mono HD1.out.size)
  have hd2:=hc2.trans (hx2.mono hc2.size)
  have hv2x:=hv2.up hx2
  have n2:Whole1 (w2.alloc (.cells #[.int .i64 t2.kind,.slice L2 t2.labels.length lc2,.slice A2 t2.args.length ac2,.int .i64 k2] 83)) w2.heap.size 83 #[.int .i64 t2.kind,.slice L2 t2.labels.length lc2,.slice A2 t2.args.length ac2,.int .i64 k2]:=Whole1.new _ _ _
  have zzx2:=zz0.below hd2 zz0.lt
  have hnn1:=(HN.out.below hb2 HN.out.lt).below hx2 (HN.out.below hb2 HN.out.lt).lt
  have HB2:=Lib.hid (hb0.trans (hd2.mono hb0.size))
  have HUU2:=Lib.hid (HU0.out.below hd2)
  have HJJ2:=Lib.hid (HJ0.out.below hd2)
  go_upto_region 5 with fail
  generalize (w2.alloc (.cells #[.int .i64 t2.kind,.slice L2 t2.labels.length lc2,.slice A2 t2.args.length ac2,.int .i64 k2] 83))=W2 at *
  rcases hor2 with ⟨rn,rfl⟩ | ⟨rs2,rfl⟩
  ·have HRN:=Lib.hid (HR.out.trans (show thenO (typeO o1) (typeO o2) s=none by simp only [thenO,HRS.out,HR2.out.symm.trans rn]))
   have HF:=Lib.hid (typ_none0 (N:=N) (u:=(.iface 246 (.pointer (some ua)))) HB2.out HRN.out)
   have HG:=Lib.hid (fun a b c d=>(typ_none4 (N:=N) (u:=(.iface 246 (.pointer (some ua)))) (show w.heap.size≤w.heap.size+1+1+1 by omega) HB2.out HRN.out a b c d))
   obtain ⟨d0,d1,d2,d3⟩:=zzx2.c4
   obtain ⟨df0,df1,df2,df3⟩:=zzx2.f4
   clear hb2 hx2 hc2 hd2 hv2 hv2x n2 zzx2 zz0 rn HB2 HUU2 HJJ2 HRN HU0 HJ0 HR HR1 hnn1 HN HD1 HS1 HRS HR2 hs2
   go_wp2
   first | exact bodyPost_ret (v:=.tuple #[.agg #[.int .i64 0,.slice none 0 0,.slice none 0 0,.int .i64 0],.iface 246 (.pointer (some ua))]) (by simp [results,Tryz.results181,go_sem,d0,d1,d2,d3]) rfl HF.out | exact bodyPost_ret (v:=.tuple #[.agg #[.int .i64 0,.slice none 0 0,.slice none 0 0,.int .i64 0],.iface 246 (.pointer (some ua))]) (by simp [results,Tryz.results181,go_sem,d0,d1,d2,d3]) rfl (HG.out _ _ _ _)
  ·have HRY:=Lib.hid (HR.out.trans (show thenO (typeO o1) (typeO o2) s=some (t2,joinI k1 k2) by simp only [thenO,HRS.out,HR2.out.symm.trans rs2]))
   have HN2:=Lib.hid n2
   have HN1:=Lib.hid hnn1
   have HV2:=Lib.hid hv2x
   have HZ:=Lib.hid zzx2
   have hl1:=hnn1.lt
   have hl2:=n2.lt
   have hn1:w.heap.size+1+1+1≠w1.heap.size:=by have:=zz0.lt;have:=hc1.size;omega
   have hn2:w.heap.size+1+1+1≠w2.heap.size:=by have:=zz0.lt;have:=hc2.size;omega
   have HSS:=Lib.hid hs2
   clear hb2 hx2 hc2 hd2 hv2 hv2x n2 zzx2 zz0 rs2 HU0 HJ0 HR HR1 hnn1 HN HD1 HS1 HRS HR2 hs2 HUU2 hc1
   go_upto_region 7 with fail
   have KS:=Lib.hid (fun (x:World) (hx:∀ q,q<W2.heap.size→w.heap.size+1+1+1≠q→x.heap[q]?=W2.heap[q]?)=>(show x.cell? ⟨w2.heap.size,0,none⟩=some (.int .i64 t2.kind)∧x.cell? ⟨w2.heap.size,1,none⟩=some (.slice L2 t2.labels.length lc2)∧x.cell? ⟨w2.heap.size,2,none⟩=some (.slice A2 t2.args.length ac2)∧x.cell? ⟨w2.heap.size,3,none⟩=some (.int .i64 k2)∧x.cell? ⟨w1.heap.size,3,none⟩=some (.int .i64 k1) from ⟨kH (HN2.out.cell 0) (hx _ hl2 hn2),kH (HN2.out.cell 1) (hx _ hl2 hn2),kH (HN2.out.cell 2) (hx _ hl2 hn2),kH (HN2.out.cell 3) (hx _ hl2 hn2),kH (HN1.out.cell 3) (hx _ hl1 hn1)⟩))
   have hD:=(Below.refl W2.heap.size W2).drew
   go_region_held3 (fun x:World=>x.cell? ⟨w2.heap.size,0,none⟩=some (.int .i64 t2.kind)∧x.cell? ⟨w2.heap.size,1,none⟩=some (.slice L2 t2.labels.length lc2)∧x.cell? ⟨w2.heap.size,2,none⟩=some (.slice A2 t2.args.length ac2)∧x.cell? ⟨w2.heap.size,3,none⟩=some (.int .i64 k2)∧x.cell? ⟨w1.heap.size,3,none⟩=some (.int .i64 k1)) (first | with_reducible exact KS.out _ (fun q hq _=>hD.block q hq) | with_reducible exact KS.out _ (fun q hq _=>hb9.block q hq) | with_reducible exact KS.out _ (fun q hq hne=>(set4_heap _ _ q (Ne.symm hne) _ _ _ _).trans (hb9.block q hq))) (first | (go_simp;go_at_call 196;(with_reducible refine (implJoinK_any k1 k2 _ (HJJ2.out.below (Below.refl _ _).drew)).mono ?_);rintro e w9 ⟨rfl,hb9'⟩;have hb9:=hD.trans hb9';have z9:=HZ.out.below hb9 HZ.out.lt;obtain ⟨d0,d1,d2,d3⟩:=z9.c4;obtain ⟨df0,df1,df2,df3⟩:=z9.f4;have HF:=Lib.hid (fun a b c d=>typ_fin (r:=r) (u:=(.iface 246 (.pointer (some ua)))) (show w.heap.size≤w.heap.size+1+1+1 by omega) (HB2.out.trans (hb9.mono HB2.out.size)) (HV2.out.up hb9) HSS.out (.inr ⟨HRY.out,rfl⟩) a b c d);clear hb9' z9))
   all_goals go_wp2
   all_goals exact bodyPost_ret (v:=.tuple #[.agg #[.int .i64 t2.kind,.slice L2 t2.labels.length lc2,.slice A2 t2.args.length ac2,.int .i64 (joinI k1 k2)],.nilIface]) (by simp [results,Tryz.results181,go_sem,d0,d1,d2,d3]) rfl (HF.out _ _ _ _)
end Go.Proofs.YtfnblkcmcfofoaaGreatDoor
