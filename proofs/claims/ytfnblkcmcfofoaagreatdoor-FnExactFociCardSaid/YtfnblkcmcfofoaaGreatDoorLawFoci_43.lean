/- Lemmas: ImplTyped. -/
import Derived.Test.YtfnblkcmcfofoaaGreatDoorLawFoci_41
import Derived.Test.YtfnblkcmcfofoaaGreatDoorLawFoci_42
import Derived.Test.YtfnblkcmcfofoaaGreatDoorLawFoci_31

namespace Go.Proofs.YtfnblkcmcfofoaaGreatDoor
set_option maxRecDepth 100000
set_option linter.unusedSimpArgs false
open Go.RowKit
attribute [local go_sem ↓] Go.wp_at_zero Go.wp_at_succ
theorem form_of_optic {o:Ot} (h:opticB o=true):formOt o=true:=by
 unfold opticB at h
 simp only [Bool.and_eq_true] at h
 exact h.2
set_option maxHeartbeats 4000000 in
theorem typChecked_any {u:Value} {r:Option (Ty×Int)} (s:Ty) (o:Ot) (sv ov:Value) (w:World) (hU:UnfitAt w u) (hJ:JoinsAt w) (hv:OwnT w sv s) (ho:OwnO w ov o) (hs:szTy s≤1048576) (hz:szOt o≤1048576) (hr:r=opticTypeB s o):
  Calls Tryz.prog 53 #[sv,ov] w (TypPost (fun _=>False) u r w):=by
 obtain ⟨N,hNe⟩:∃ N:Nat→Prop,N=fun _=>False:=⟨_,rfl⟩
 rw [← hNe]
 have hva:=hv.any
 rw [← hNe] at hva
 obtain ⟨L,lc,A,ac,rfl⟩:=hva.open
 obtain ⟨B,bc,rfl,_⟩:=ho.open
 obtain ⟨hb0,p0,q0,zz0,hs0⟩:=boxes3 w 27 30 83 #[.int .i64 s.kind,.slice L s.labels.length lc,.slice A s.args.length ac] #[.int .i64 o.kind,.string o.name,.int .i64 o.num,.slice B o.args.length bc] #[.int .i64 0,.slice none 0 0,.slice none 0 0,.int .i64 0]
 have HV0:=Lib.hid ((hva.late (w.heap.size+1+1) (by omega)).up hb0)
 have HO0:=Lib.hid (ho.up hb0)
 have HU0:=Lib.hid (hU.below hb0)
 have HJ0:=Lib.hid (hJ.below hb0)
 have HN0:=Lib.hid (show ∀ b,(N b∨b=w.heap.size+1+1)→b<(((w.alloc (.cells #[.int .i64 s.kind,.slice L s.labels.length lc,.slice A s.args.length ac] 27)).alloc (.cells #[.int .i64 o.kind,.string o.name,.int .i64 o.num,.slice B o.args.length bc] 30)).alloc (.cells #[.int .i64 0,.slice none 0 0,.slice none 0 0,.int .i64 0] 83)).heap.size from fun b hb=>hb.elim (fun hb=>by rw [hNe] at hb;exact hb.elim) (fun e=>e ▸ zz0.lt))
 have HVA:=Lib.hid (implValid_any s _ _ HV0.out.own hs)
 have HOP:=Lib.hid (fun W h=>implIsOptic_any o (.agg #[.int .i64 o.kind,.string o.name,.int .i64 o.num,.slice B o.args.length bc]) W h (by have:=size_le_szO o;omega))
 have HR:=Lib.hid hr
 have HB0:=Lib.hid hb0
 have HZ0:=Lib.hid zz0
 have HP0:=Lib.hid p0
 have HQ0:=Lib.hid q0
 have HSZ:=Lib.hid hz
 clear hr hva hv ho hJ hb0 zz0 p0 q0 hs0 hNe hs hz
 obtain ⟨hug,huc,ua,rfl⟩:=hU
 clear hug huc
 go_enter Tryz.func53,Tryz.ntmps53
 go_wp2_with fail
 generalize ((w.alloc (.cells #[.int .i64 s.kind,.slice L s.labels.length lc,.slice A s.args.length ac] 27)).alloc (.cells #[.int .i64 o.kind,.string o.name,.int .i64 o.num,.slice B o.args.length bc] 30)).alloc (.cells #[.int .i64 0,.slice none 0 0,.slice none 0 0,.int .i64 0] 83)=w0 at *
 cases hvs:validB s
 ·rw [hvs] at HVA
  have HRN:=Lib.hid (HR.out.trans (show opticTypeB s o=none by simp [opticTypeB,hvs]))
  clear hvs
  refine HVA.out.mono ?_
  rintro e w1 ⟨rfl,hb1⟩
  have HU1:=Lib.hid (HU0.out.below hb1)
  have HB1:=Lib.hid (HB0.out.trans (hb1.mono HB0.out.size))
  have HZ1:=Lib.hid (HZ0.out.below hb1 HZ0.out.lt)
  clear hb1
  obtain ⟨d0,d1,d2,d3⟩:=HZ1.out.c4
  obtain ⟨df0,df1,df2,df3⟩:=HZ1.out.f4
  have e0:=dC d0
  have ef0:=dF df0
  have e1:=dC d1
  have ef1:=dF df1
  have e2:=dC d2
  have ef2:=dF df2
  have e3:=dC d3
  have ef3:=dF df3
  have hu0:w1.cell? ⟨0,0,none⟩=some (.iface 246 (.pointer (some ua))):=HU1.out.2.1
  have hud:=dC hu0
  have HF:=Lib.hid (typ_none (N:=N) (u:=(.iface 246 (.pointer (some ua)))) HB1.out HRN.out)
  have HG:=Lib.hid (fun a b c d=>typ_drew ((typ_none4 (N:=N) (u:=(.iface 246 (.pointer (some ua)))) (show w.heap.size≤w.heap.size+1+1 by omega) HB1.out HRN.out a b c d)))
  go_wp2
  go_region
  go_wp2
  first | exact bodyPost_ret (v:=.tuple #[.agg #[.int .i64 0,.slice none 0 0,.slice none 0 0,.int .i64 0],.iface 246 (.pointer (some ua))]) (by simp [results,Tryz.results53,go_sem,d0,d1,d2,d3,e0,e1,e2,e3]) rfl HF.out | exact bodyPost_ret (v:=.tuple #[.agg #[.int .i64 0,.slice none 0 0,.slice none 0 0,.int .i64 0],.iface 246 (.pointer (some ua))]) (by simp [results,Tryz.results53,go_sem,d0,d1,d2,d3,e0,e1,e2,e3]) rfl (HG.out _ _ _ _)
 ·rw [hvs] at HVA
  have HVS:=Lib.hid hvs
  clear hvs
  refine HVA.out.mono ?_
  rintro e w1 ⟨rfl,hb1⟩
  have HD1:=Lib.hid hb1
  have HOP1:=Lib.hid (HOP.out w1 (HO0.out.up hb1))
  clear hb1
  obtain ⟨qo0,qo1,qo2,qo3⟩:=(HQ0.out.below HD1.out HQ0.out.lt).c4
  cases hvo:opticB o
  ·rw [hvo] at HOP1
   have HRN:=Lib.hid (HR.out.trans (show opticTypeB s o=none by simp [opticTypeB,hvo]))
   clear hvo
   go_wp2_with fail
   refine HOP1.out.mono ?_
   rintro e w2 ⟨rfl,hb2⟩
   have hd2:=HD1.out.trans (hb2.mono HD1.out.size)
   have HU2:=Lib.hid (HU0.out.below hd2)
   have HB2:=Lib.hid (HB0.out.trans (hd2.mono HB0.out.size))
   have HZ2:=Lib.hid (HZ0.out.below hd2 HZ0.out.lt)
   clear hb2 hd2 qo0 qo1 qo2 qo3
   obtain ⟨d0,d1,d2,d3⟩:=HZ2.out.c4
   obtain ⟨df0,df1,df2,df3⟩:=HZ2.out.f4
   have e0:=dC d0
   have ef0:=dF df0
   have e1:=dC d1
   have ef1:=dF df1
   have e2:=dC d2
   have ef2:=dF df2
   have e3:=dC d3
   have ef3:=dF df3
   have hu0:w2.cell? ⟨0,0,none⟩=some (.iface 246 (.pointer (some ua))):=HU2.out.2.1
   have hud:=dC hu0
   have HF:=Lib.hid (typ_none (N:=N) (u:=(.iface 246 (.pointer (some ua)))) HB2.out HRN.out)
   have HG:=Lib.hid (fun a b c d=>typ_drew ((typ_none4 (N:=N) (u:=(.iface 246 (.pointer (some ua)))) (show w.heap.size≤w.heap.size+1+1 by omega) HB2.out HRN.out a b c d)))
   go_wp2
   go_region
   go_wp2
   first | exact bodyPost_ret (v:=.tuple #[.agg #[.int .i64 0,.slice none 0 0,.slice none 0 0,.int .i64 0],.iface 246 (.pointer (some ua))]) (by simp [results,Tryz.results53,go_sem,d0,d1,d2,d3,e0,e1,e2,e3]) rfl HF.out | exact bodyPost_ret (v:=.tuple #[.agg #[.int .i64 0,.slice none 0 0,.slice none 0 0,.int .i64 0],.iface 246 (.pointer (some ua))]) (by simp [results,Tryz.results53,go_sem,d0,d1,d2,d3,e0,e1,e2,e3]) rfl (HG.out _ _ _ _)
  ·rw [hvo] at HOP1
   have HRY:=Lib.hid (HR.out.trans (show opticTypeB s o=typeO o s by simp [opticTypeB,HVS.out,hvo]))
   have hfo:=form_of_optic hvo
   clear hvo
   go_wp2_with fail
   refine HOP1.out.mono ?_
   rintro e w2 ⟨rfl,hb2⟩
   have HD2:=Lib.hid (HD1.out.trans (hb2.mono HD1.out.size))
   have HC:=Lib.hid (typOne_any o (fun b=>N b∨b=w.heap.size+1+1) (.iface 246 (.pointer (some ua))) r s (.agg #[.int .i64 s.kind,.slice L s.labels.length lc,.slice A s.args.length ac]) (.agg #[.int .i64 o.kind,.string o.name,.int .i64 o.num,.slice B o.args.length bc]) w2 (fun b hb=>Nat.lt_of_lt_of_le (HN0.out b hb) HD2.out.size) (HU0.out.below HD2.out) (HJ0.out.below HD2.out) (HV0.out.up HD2.out) (HO0.out.up HD2.out).here HVS.out hfo HSZ.out HRY.out)
   clear hb2 hfo qo0 qo1 qo2 qo3
   obtain ⟨sp0,sp1,sp2⟩:=(HP0.out.below HD2.out HP0.out.lt).c3
   obtain ⟨qo0,qo1,qo2,qo3⟩:=(HQ0.out.below HD2.out HQ0.out.lt).c4
   go_wp2_with fail
   refine HC.out.mono ?_
   rintro e w3 ⟨L1,lc1,A1,ac1,t1,k1,x1,rfl,hv1,hb1,hs1,hor1⟩
   have hd3:=HD2.out.trans (hb1.mono HD2.out.size)
   have HF:=Lib.hid (fun a b c d=>typ_fin (r:=r) (show w.heap.size≤w.heap.size+1+1 by omega) (HB0.out.trans (hd3.mono HB0.out.size)) hv1 hs1 hor1 a b c d)
   have z3:=HZ0.out.below hd3 HZ0.out.lt
   clear sp0 sp1 sp2 qo0 qo1 qo2 qo3 HC
   obtain ⟨d0,d1,d2,d3⟩:=z3.c4
   obtain ⟨df0,df1,df2,df3⟩:=z3.f4
   clear hd3 z3 hv1 hs1 hor1 hb1
   go_wp2
   exact bodyPost_ret (v:=.tuple #[.agg #[.int .i64 t1.kind,.slice L1 t1.labels.length lc1,.slice A1 t1.args.length ac1,.int .i64 k1],x1]) (by simp [results,Tryz.results53,go_sem,d0,d1,d2,d3]) rfl (HF.out _ _ _ _)
set_option maxHeartbeats 4000000 in
theorem implIsTyped_any (s:Ty) (o:Ot) {u:Value} (sv ov:Value) (w:World) (hU:UnfitAt w u) (hJ:JoinsAt w) (hv:OwnT w sv s) (ho:OwnO w ov o) (hs:szTy s≤1048576) (hz:szOt o≤1048576):
  Calls Tryz.prog 14 #[sv,ov] w (BoolIs (opticTypeB s o).isSome w):=by
 obtain ⟨L,lc,A,ac,hsv⟩:=hv.any.open
 subst hsv
 obtain ⟨B,bc,hov,_⟩:=ho.open
 subst hov
 obtain ⟨hb0,p0,q0,hs0⟩:=boxes2 w 27 30 #[.int .i64 s.kind,.slice L s.labels.length lc,.slice A s.args.length ac] #[.int .i64 o.kind,.string o.name,.int .i64 o.num,.slice B o.args.length bc]
 have HU0:=Lib.hid (hU.below hb0)
 obtain ⟨hug,huc,ua,rfl⟩:=hU
 obtain ⟨r,hr⟩:∃ r,r=opticTypeB s o:=⟨_,rfl⟩
 rw [← hr]
 have HC:=Lib.hid (typChecked_any (r:=r) s o _ _ _ HU0.out (hJ.below hb0) (hv.up hb0) (ho.up hb0) hs hz hr)
 have HB0:=Lib.hid hb0
 clear hv ho hJ hb0 hs hz hug huc hr p0 q0 hs0
 go_enter Tryz.func14,Tryz.ntmps14
 go_wp2_with fail
 generalize (w.alloc (.cells #[.int .i64 s.kind,.slice L s.labels.length lc,.slice A s.args.length ac] 27)).alloc (.cells #[.int .i64 o.kind,.string o.name,.int .i64 o.num,.slice B o.args.length bc] 30)=w0 at *
 refine HC.out.mono ?_
 rintro e w1 ⟨L1,lc1,A1,ac1,t1,k1,x1,rfl,hv1,hb1,hs1,hor1⟩
 have hx1:=(Below.refl w1.heap.size w1).alloc (Nat.le_refl _) (.cells #[.int .i64 t1.kind,.slice L1 t1.labels.length lc1,.slice A1 t1.args.length ac1,.int .i64 k1] 83)
 have hd1:=hb1.trans (hx1.mono hb1.size)
 have HN1:=Lib.hid (show Whole1 (w1.alloc (.cells #[.int .i64 t1.kind,.slice L1 t1.labels.length lc1,.slice A1 t1.args.length ac1,.int .i64 k1] 83)) w1.heap.size 83 #[.int .i64 t1.kind,.slice L1 t1.labels.length lc1,.slice A1 t1.args.length ac1,.int .i64 k1] from Whole1.new _ _ _)
 have HV1:=Lib.hid (hv1.up hx1)
 have HB1:=Lib.hid (HB0.out.trans (hd1.mono HB0.out.size))
 have HU1:=Lib.hid (HU0.out.below hd1)
 have HS1:=Lib.hid hs1
 have HD1:=Lib.hid hd1
 clear hx1 hd1 hv1 hb1 hs1 HC
 go_upto_region 2 with fail
 generalize (w1.alloc (.cells #[.int .i64 t1.kind,.slice L1 t1.labels.length lc1,.slice A1 t1.args.length ac1,.int .i64 k1] 83))=W1 at *
 have hu0:W1.cell? ⟨0,0,none⟩=some (.iface 246 (.pointer (some ua))):=HU1.out.2.1
 rcases hor1 with ⟨rn,rfl⟩ | ⟨rs,rfl⟩
 ·have HR:=Lib.hid rn
  clear rn
  go_wp2_with fail
  refine (errIs_same ua _).mono ?_
  rintro e w2 ⟨rfl,rfl⟩
  go_wp2
  go_ret
  exact ⟨by rw [HR.out];rfl,HB1.out⟩
 ·have HR:=Lib.hid rs
  clear rs
  go_wp2_with fail
  refine (errIs_nil ua _).mono ?_
  rintro e w2 ⟨rfl,rfl⟩
  go_wp2
  go_ret
  exact ⟨by rw [HR.out];rfl,HB1.out⟩
end Go.Proofs.YtfnblkcmcfofoaaGreatDoor
