/- Lemmas: TypKindA. -/
import Derived.Test.YtfnblkcmcfofoaaGreatDoorLawFoci_36
import Derived.Test.YtfnblkcmcfofoaaGreatDoorLawFoci_38
import Derived.Test.YtfnblkcmcfofoaaGreatDoorLawFoci_35

namespace Go.Proofs.YtfnblkcmcfofoaaGreatDoor
set_option maxRecDepth 100000
set_option linter.unusedSimpArgs false
open Go.RowKit
attribute [local go_sem ↓] Go.wp_at_zero Go.wp_at_succ
set_option maxHeartbeats 4000000 in
theorem typKind_leaf (k0:Int) (hk:k0=1∨k0=2∨k0=3∨k0=4∨k0=5∨k0=6∨k0=7∨k0=8∨k0=9∨k0=10) (n0:Int) (nm:ByteArray) (ts:List Ot) (B:Option Addr) (bc:Nat) {N:Nat→Prop} {u:Value} {r:Option (Ty×Int)} (s:Ty) (sv:Value) (w:World) (hN:∀ b,N b→b<w.heap.size) (hU:UnfitAt w u) (hJ:JoinsAt w) (hv:OwnA N w sv s) (ho:OtAt w w.heap.size (.agg #[.int .i64 k0,.string nm,.int .i64 n0,.slice B ts.length bc]) (.mk k0 n0 nm ts)) (hval:validB s=true) (hf:formOt (.mk k0 n0 nm ts)=true) (hz:szOt (.mk k0 n0 nm ts)≤1048576) (hr:r=leafO k0 nm s):
  Calls Tryz.prog 147 #[sv,.agg #[.int .i64 k0,.string nm,.int .i64 n0,.slice B ts.length bc]] w (TypPost N u r w):=by
 have hnm:=form_name hf
 have hse:=szTy_valid hval
 obtain ⟨L,lc,A,ac,rfl⟩:=hv.open
 obtain ⟨hb0,p0,q0,zz0,hs0⟩:=boxes3 w 27 30 83 #[.int .i64 s.kind,.slice L s.labels.length lc,.slice A s.args.length ac] #[.int .i64 k0,.string nm,.int .i64 n0,.slice B ts.length bc] #[.int .i64 0,.slice none 0 0,.slice none 0 0,.int .i64 0]
 have HV0:=Lib.hid ((hv.late (w.heap.size+1+1) (by omega)).up hb0)
 have HO0:=Lib.hid (ho.up hb0)
 have HN0:=Lib.hid (show ∀ b,(N b∨b=w.heap.size+1+1)→b<(((w.alloc (.cells #[.int .i64 s.kind,.slice L s.labels.length lc,.slice A s.args.length ac] 27)).alloc (.cells #[.int .i64 k0,.string nm,.int .i64 n0,.slice B ts.length bc] 30)).alloc (.cells #[.int .i64 0,.slice none 0 0,.slice none 0 0,.int .i64 0] 83)).heap.size from fun b hb=>hb.elim (fun hb=>Nat.lt_of_lt_of_le (hN b hb) hb0.size) (fun e=>e ▸ zz0.lt))
 have HU0:=Lib.hid (hU.below hb0)
 have HJ0:=Lib.hid (hJ.below hb0)
 obtain ⟨hug,huc,ua,rfl⟩:=hU
 have HR:=Lib.hid hr
 have HB0:=Lib.hid hb0
 have HZ0:=Lib.hid zz0
 have HP0:=Lib.hid p0
 have HQ0:=Lib.hid q0
 have HZZ:=Lib.hid hz
 have HFO:=Lib.hid hf
 have HOW:=Lib.hid ho
 clear hv hN hr hJ hug huc ho hb0 zz0 p0 q0 hs0 hz hf
 go_enter Tryz.func147,Tryz.ntmps147
 go_upto_region 1 with fail
 generalize ((w.alloc (.cells #[.int .i64 s.kind,.slice L s.labels.length lc,.slice A s.args.length ac] 27)).alloc (.cells #[.int .i64 k0,.string nm,.int .i64 n0,.slice B ts.length bc] 30)).alloc (.cells #[.int .i64 0,.slice none 0 0,.slice none 0 0,.int .i64 0] 83)=w0 at *
 obtain ⟨sp0,sp1,sp2⟩:=HP0.out.c3
 obtain ⟨qo0,qo1,qo2,qo3⟩:=HQ0.out.c4
 rcases hk with rfl | rfl | rfl | rfl | rfl | rfl | rfl | rfl | rfl | rfl
 ·have HF:=Lib.hid (fun a b c d=>typ_fin (r:=r) (u:=(.iface 246 (.pointer (some ua)))) (kd:=1) (show w.heap.size≤w.heap.size+1+1 by omega) HB0.out HV0.out (by omega) (.inr ⟨HR.out.trans (by simp [leafO]),rfl⟩) a b c d)
  obtain ⟨d0,d1,d2,d3⟩:=HZ0.out.c4
  obtain ⟨df0,df1,df2,df3⟩:=HZ0.out.f4
  clear hval hse hnm
  go_wp2
  exact bodyPost_ret (v:=.tuple #[.agg #[.int .i64 s.kind,.slice L s.labels.length lc,.slice A s.args.length ac,.int .i64 1],.nilIface]) (by simp [results,Tryz.results147,go_sem,d0,d1,d2,d3]) rfl (HF.out _ _ _ _)
 ·have HC:=Lib.hid (typPart_any (N:=fun b=>N b∨b=w.heap.size+1+1) (u:=(.iface 246 (.pointer (some ua)))) (r:=r) s _ 3 nm 2 w0 HN0.out HU0.out HV0.out hval (HR.out.trans (by simp [leafO])))
  clear hval hse hnm
  go_wp2_with fail
  refine HC.out.mono ?_
  rintro e w1 ⟨L1,lc1,A1,ac1,t1,k1,x1,rfl,hv1,hb1,hs1,hor1⟩
  have HF:=Lib.hid (fun a b c d=>typ_fin (r:=r) (show w.heap.size≤w.heap.size+1+1 by omega) (HB0.out.trans (hb1.mono HB0.out.size)) hv1 hs1 hor1 a b c d)
  have z1:=HZ0.out.below hb1 HZ0.out.lt
  obtain ⟨d0,d1,d2,d3⟩:=z1.c4
  obtain ⟨df0,df1,df2,df3⟩:=z1.f4
  clear hv1 hs1 hor1 hb1 z1 HC sp0 sp1 sp2 qo0 qo1 qo2 qo3
  go_wp2
  exact bodyPost_ret (v:=.tuple #[.agg #[.int .i64 t1.kind,.slice L1 t1.labels.length lc1,.slice A1 t1.args.length ac1,.int .i64 k1],x1]) (by simp [results,Tryz.results147,go_sem,d0,d1,d2,d3]) rfl (HF.out _ _ _ _)
 ·have HC:=Lib.hid (typPart_any (N:=fun b=>N b∨b=w.heap.size+1+1) (u:=(.iface 246 (.pointer (some ua)))) (r:=r) s _ 4 nm 3 w0 HN0.out HU0.out HV0.out hval (HR.out.trans (by simp [leafO])))
  clear hval hse hnm
  go_wp2_with fail
  refine HC.out.mono ?_
  rintro e w1 ⟨L1,lc1,A1,ac1,t1,k1,x1,rfl,hv1,hb1,hs1,hor1⟩
  have HF:=Lib.hid (fun a b c d=>typ_fin (r:=r) (show w.heap.size≤w.heap.size+1+1 by omega) (HB0.out.trans (hb1.mono HB0.out.size)) hv1 hs1 hor1 a b c d)
  have z1:=HZ0.out.below hb1 HZ0.out.lt
  obtain ⟨d0,d1,d2,d3⟩:=z1.c4
  obtain ⟨df0,df1,df2,df3⟩:=z1.f4
  clear hv1 hs1 hor1 hb1 z1 HC sp0 sp1 sp2 qo0 qo1 qo2 qo3
  go_wp2
  exact bodyPost_ret (v:=.tuple #[.agg #[.int .i64 t1.kind,.slice L1 t1.labels.length lc1,.slice A1 t1.args.length ac1,.int .i64 k1],x1]) (by simp [results,Tryz.results147,go_sem,d0,d1,d2,d3]) rfl (HF.out _ _ _ _)
 ·have HC:=Lib.hid (typElements_any (N:=fun b=>N b∨b=w.heap.size+1+1) (u:=(.iface 246 (.pointer (some ua)))) (r:=r) s _ 5 w0 HN0.out HU0.out HV0.out hval (HR.out.trans (by simp [leafO])))
  clear hval hse hnm
  go_wp2_with fail
  refine HC.out.mono ?_
  rintro e w1 ⟨L1,lc1,A1,ac1,t1,k1,x1,rfl,hv1,hb1,hs1,hor1⟩
  have HF:=Lib.hid (fun a b c d=>typ_fin (r:=r) (show w.heap.size≤w.heap.size+1+1 by omega) (HB0.out.trans (hb1.mono HB0.out.size)) hv1 hs1 hor1 a b c d)
  have z1:=HZ0.out.below hb1 HZ0.out.lt
  obtain ⟨d0,d1,d2,d3⟩:=z1.c4
  obtain ⟨df0,df1,df2,df3⟩:=z1.f4
  clear hv1 hs1 hor1 hb1 z1 HC sp0 sp1 sp2 qo0 qo1 qo2 qo3
  go_wp2
  exact bodyPost_ret (v:=.tuple #[.agg #[.int .i64 t1.kind,.slice L1 t1.labels.length lc1,.slice A1 t1.args.length ac1,.int .i64 k1],x1]) (by simp [results,Tryz.results147,go_sem,d0,d1,d2,d3]) rfl (HF.out _ _ _ _)
 ·have HC:=Lib.hid (typFields_any (N:=fun b=>N b∨b=w.heap.size+1+1) (u:=(.iface 246 (.pointer (some ua)))) (r:=r) s _ w0 HN0.out HU0.out HV0.out hval (HR.out.trans (by simp [leafO])))
  clear hval hse hnm
  go_wp2_with fail
  refine HC.out.mono ?_
  rintro e w1 ⟨L1,lc1,A1,ac1,t1,k1,x1,rfl,hv1,hb1,hs1,hor1⟩
  have HF:=Lib.hid (fun a b c d=>typ_fin (r:=r) (show w.heap.size≤w.heap.size+1+1 by omega) (HB0.out.trans (hb1.mono HB0.out.size)) hv1 hs1 hor1 a b c d)
  have z1:=HZ0.out.below hb1 HZ0.out.lt
  obtain ⟨d0,d1,d2,d3⟩:=z1.c4
  obtain ⟨df0,df1,df2,df3⟩:=z1.f4
  clear hv1 hs1 hor1 hb1 z1 HC sp0 sp1 sp2 qo0 qo1 qo2 qo3
  go_wp2
  exact bodyPost_ret (v:=.tuple #[.agg #[.int .i64 t1.kind,.slice L1 t1.labels.length lc1,.slice A1 t1.args.length ac1,.int .i64 k1],x1]) (by simp [results,Tryz.results147,go_sem,d0,d1,d2,d3]) rfl (HF.out _ _ _ _)
 ·have HC:=Lib.hid (typElements_any (N:=fun b=>N b∨b=w.heap.size+1+1) (u:=(.iface 246 (.pointer (some ua)))) (r:=r) s _ 4 w0 HN0.out HU0.out HV0.out hval (HR.out.trans (by simp [leafO])))
  clear hval hse hnm
  go_wp2_with fail
  refine HC.out.mono ?_
  rintro e w1 ⟨L1,lc1,A1,ac1,t1,k1,x1,rfl,hv1,hb1,hs1,hor1⟩
  have HF:=Lib.hid (fun a b c d=>typ_fin (r:=r) (show w.heap.size≤w.heap.size+1+1 by omega) (HB0.out.trans (hb1.mono HB0.out.size)) hv1 hs1 hor1 a b c d)
  have z1:=HZ0.out.below hb1 HZ0.out.lt
  obtain ⟨d0,d1,d2,d3⟩:=z1.c4
  obtain ⟨df0,df1,df2,df3⟩:=z1.f4
  clear hv1 hs1 hor1 hb1 z1 HC sp0 sp1 sp2 qo0 qo1 qo2 qo3
  go_wp2
  exact bodyPost_ret (v:=.tuple #[.agg #[.int .i64 t1.kind,.slice L1 t1.labels.length lc1,.slice A1 t1.args.length ac1,.int .i64 k1],x1]) (by simp [results,Tryz.results147,go_sem,d0,d1,d2,d3]) rfl (HF.out _ _ _ _)
 ·have HC:=Lib.hid (typChange_any (N:=fun b=>N b∨b=w.heap.size+1+1) (u:=(.iface 246 (.pointer (some ua)))) (r:=r) s _ 1 w0 HN0.out HU0.out HV0.out hval (HR.out.trans (by simp [leafO])))
  clear hval hse hnm
  go_wp2_with fail
  refine HC.out.mono ?_
  rintro e w1 ⟨L1,lc1,A1,ac1,t1,k1,x1,rfl,hv1,hb1,hs1,hor1⟩
  have HF:=Lib.hid (fun a b c d=>typ_fin (r:=r) (show w.heap.size≤w.heap.size+1+1 by omega) (HB0.out.trans (hb1.mono HB0.out.size)) hv1 hs1 hor1 a b c d)
  have z1:=HZ0.out.below hb1 HZ0.out.lt
  obtain ⟨d0,d1,d2,d3⟩:=z1.c4
  obtain ⟨df0,df1,df2,df3⟩:=z1.f4
  clear hv1 hs1 hor1 hb1 z1 HC sp0 sp1 sp2 qo0 qo1 qo2 qo3
  go_wp2
  exact bodyPost_ret (v:=.tuple #[.agg #[.int .i64 t1.kind,.slice L1 t1.labels.length lc1,.slice A1 t1.args.length ac1,.int .i64 k1],x1]) (by simp [results,Tryz.results147,go_sem,d0,d1,d2,d3]) rfl (HF.out _ _ _ _)
 ·have HC:=Lib.hid (typChange_any (N:=fun b=>N b∨b=w.heap.size+1+1) (u:=(.iface 246 (.pointer (some ua)))) (r:=r) s _ 2 w0 HN0.out HU0.out HV0.out hval (HR.out.trans (by simp [leafO])))
  clear hval hse hnm
  go_wp2_with fail
  refine HC.out.mono ?_
  rintro e w1 ⟨L1,lc1,A1,ac1,t1,k1,x1,rfl,hv1,hb1,hs1,hor1⟩
  have HF:=Lib.hid (fun a b c d=>typ_fin (r:=r) (show w.heap.size≤w.heap.size+1+1 by omega) (HB0.out.trans (hb1.mono HB0.out.size)) hv1 hs1 hor1 a b c d)
  have z1:=HZ0.out.below hb1 HZ0.out.lt
  obtain ⟨d0,d1,d2,d3⟩:=z1.c4
  obtain ⟨df0,df1,df2,df3⟩:=z1.f4
  clear hv1 hs1 hor1 hb1 z1 HC sp0 sp1 sp2 qo0 qo1 qo2 qo3
  go_wp2
  exact bodyPost_ret (v:=.tuple #[.agg #[.int .i64 t1.kind,.slice L1 t1.labels.length lc1,.slice A1 t1.args.length ac1,.int .i64 k1],x1]) (by simp [results,Tryz.results147,go_sem,d0,d1,d2,d3]) rfl (HF.out _ _ _ _)
 ·have HC:=Lib.hid (typChange_any (N:=fun b=>N b∨b=w.heap.size+1+1) (u:=(.iface 246 (.pointer (some ua)))) (r:=r) s _ 5 w0 HN0.out HU0.out HV0.out hval (HR.out.trans (by simp [leafO])))
  clear hval hse hnm
  go_wp2_with fail
  refine HC.out.mono ?_
  rintro e w1 ⟨L1,lc1,A1,ac1,t1,k1,x1,rfl,hv1,hb1,hs1,hor1⟩
  have HF:=Lib.hid (fun a b c d=>typ_fin (r:=r) (show w.heap.size≤w.heap.size+1+1 by omega) (HB0.out.trans (hb1.mono HB0.out.size)) hv1 hs1 hor1 a b c d)
  have z1:=HZ0.out.below hb1 HZ0.out.lt
  obtain ⟨d0,d1,d2,d3⟩:=z1.c4
  obtain ⟨df0,df1,df2,df3⟩:=z1.f4
  clear hv1 hs1 hor1 hb1 z1 HC sp0 sp1 sp2 qo0 qo1 qo2 qo3
  go_wp2
  exact bodyPost_ret (v:=.tuple #[.agg #[.int .i64 t1.kind,.slice L1 t1.labels.length lc1,.slice A1 t1.args.length ac1,.int .i64 k1],x1]) (by simp [results,Tryz.results147,go_sem,d0,d1,d2,d3]) rfl (HF.out _ _ _ _)
 ·have hst:szTy (Ty.mk 3 [nm] [s])≤2000:=by
   have h1:=szTy_eq (Ty.mk 3 [nm] [s])
   simp [Ty.labels,Ty.args,sumSizes,szTys] at h1
   omega
  obtain ⟨hb8,l8,r8,q8,hs8⟩:=boxes3 w0 9 27 27 #[.string nm] #[.int .i64 s.kind,.slice L s.labels.length lc,.slice A s.args.length ac] #[.int .i64 3,.slice (some ⟨w0.heap.size,0,none⟩) 1 1,.slice (some ⟨w0.heap.size+1,0,none⟩) 1 1]
  have hown:=wrap_own (lc:=1) (ac:=1) (k:=3) HV0.out HN0.out hb8 (Nat.le_refl _) (by omega) (by omega) (by unfold maxLen;omega) l8 r8
  have HF:=Lib.hid (fun a b c d=>typ_fin (r:=r) (u:=(.iface 246 (.pointer (some ua)))) (kd:=1) (show w.heap.size≤w.heap.size+1+1 by omega) (HB0.out.trans (hb8.mono HB0.out.size)) hown hst (.inr ⟨HR.out.trans (by simp [leafO]),rfl⟩) a b c d)
  have z8:=HZ0.out.below hb8 HZ0.out.lt
  obtain ⟨d0,d1,d2,d3⟩:=z8.c4
  obtain ⟨df0,df1,df2,df3⟩:=z8.f4
  have hb9:=(Below.refl w0.heap.size w0).alloc (Nat.le_refl _) (.cells #[.string nm] 9)
  obtain ⟨sr0,sr1,sr2⟩:=(HP0.out.below hb9 HP0.out.lt).c3
  clear hs8 hown l8 r8 q8 hb8 z8 hst hval hse hnm hb9
  go_wp2
  exact bodyPost_ret (v:=.tuple #[.agg #[.int .i64 3,.slice (some ⟨w0.heap.size,0,none⟩) 1 1,.slice (some ⟨w0.heap.size+1,0,none⟩) 1 1,.int .i64 1],.nilIface]) (by simp [results,Tryz.results147,go_sem,d0,d1,d2,d3]) rfl (HF.out _ _ _ _)
end Go.Proofs.YtfnblkcmcfofoaaGreatDoor
