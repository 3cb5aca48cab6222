/- Lemmas: ImplUniform, TypLeaf. -/
import Derived.Test.YtfnblkcmcfofoaaGreatDoorLawFoci_33
import Derived.Test.YtfnblkcmcfofoaaGreatDoorLawFoci_34
import Derived.Test.YtfnblkcmcfofoaaGreatDoorLawFoci_30
import Derived.Test.YtfnblkcmcfofoaaGreatDoorLawFoci_17
import Derived.Deep.RegionHeld3
import Derived.Deep.RegionWith
import Derived.StillTailTactics

namespace Go.Proofs.YtfnblkcmcfofoaaGreatDoor
section
set_option maxRecDepth 100000
open Go.RowKit
theorem OwnT.kids {w:World} {a:Value} {L A:Option Addr} {n lc m ac:Nat} {t:Ty} (h:OwnT w (.agg #[a,.slice L n lc,.slice A m ac]) t):OwnTs w A t.args:=by
 obtain ⟨L',lc',A',ac',hv,_,_,_,ha⟩:=h.open
 simp at hv
 obtain ⟨_,_,rfl,_⟩:=hv
 exact ha
theorem uniform_nonrec (t:Ty) (h:t.kind≠3):uniformB t=false:=by
 unfold uniformB
 simp [h]
theorem uniform_invalid (t:Ty) (h:validB t=false):uniformB t=false:=by
 unfold uniformB
 rw [h]
 rfl
set_option maxHeartbeats 4000000 in
theorem implUniform_any (t:Ty) (v:Value) (w:World) (hv:OwnT w v t) (hsz:szTy t≤1048576):Calls Tryz.prog 195 #[v] w (BoolIs (uniformB t) w):=by
 have hval:=Lib.hid (fun V W h=>implValid_any t V W h hsz)
 have hse:=szTy_eq t
 obtain ⟨L,lc,A,ac,rfl,hn,_,_,_⟩:=hv.open
 obtain ⟨hb0,p0,hs0⟩:=boxes1 w 27 #[.int .i64 t.kind,.slice L t.labels.length lc,.slice A t.args.length ac]
 have hv0:=hv.up hb0
 have HF:=Lib.hid (fun W (h:TyAt W W.heap.size (.agg #[.int .i64 t.kind,.slice L t.labels.length lc,.slice A t.args.length ac]) t)=>formOf_any t.kind t.labels t.args L A lc ac W (by cases t;exact h) (by unfold maxLen;omega))
 clear hv hs0 hn
 go_enter Tryz.func195,Tryz.ntmps195
 go_wp2_with fail
 generalize w.alloc (.cells #[.int .i64 t.kind,.slice L t.labels.length lc,.slice A t.args.length ac] 27)=w0 at *
 refine (HF.out w0 hv0.here).mono ?_
 rintro e w1 ⟨fv,rfl,hfv,hb1⟩
 have hb1':=hb0.trans (hb1.mono hb0.size)
 have p1:=p0.below hb1 p0.lt
 have hv1:=hv0.up hb1
 clear HF p0 hv0
 rcases hfv with ⟨h0,rfl⟩ | ⟨_,hfv⟩
 ·have hr:=Lib.hid (show uniformB t=false by
   apply uniform_invalid
   cases hvb:validB t
   ·rfl
   ·have:=valid_node t hvb
    rw [h0] at this
    cases this)
  have ha0:∀ W,(Instr.typeAssert .nilIface 174 180 true).run Tryz.prog W=.ok (.tuple #[.agg #[.slice none 0 0,.slice none 0 0],.bool false]) W:=fun W=>by kernel_rfl
  clear h0 p1 hv1 hval
  go_wp2
  go_ret
  exact ⟨by rw [hr.out];rfl,hb1'.alloc hb1'.size _⟩
 ·rcases hfv with ⟨hk,hts,rfl⟩ | ⟨hk,hts,rfl⟩ | ⟨hk,rfl⟩ | ⟨hk,rfl⟩ | ⟨hk,a,b,c,t1,hts,ht,rfl⟩
  ·have hr:=Lib.hid (uniform_nonrec t (by omega))
   have ha1:=ta_intForm_recForm
   clear p1 hv1 hval hts
   go_wp2
   go_ret
   exact ⟨by rw [hr.out];rfl,hb1'.alloc hb1'.size _⟩
  ·have hr:=Lib.hid (uniform_nonrec t (by omega))
   have ha1:=ta_boolForm_recForm
   clear p1 hv1 hval hts
   go_wp2
   go_ret
   exact ⟨by rw [hr.out];rfl,hb1'.alloc hb1'.size _⟩
  ·have ha1:=ta_recForm_recForm
   have HKD:=Lib.hid hk
   clear hk
   have hbx:=(Below.refl w1.heap.size w1).alloc (Nat.le_refl _) (.cells #[.slice L t.labels.length lc,.slice A t.args.length ac] 180)
   have hv2:=hv1.up hbx
   have HV:=Lib.hid (hval.out _ _ hv2)
   have hq:=Whole1.new w1 180 #[.slice L t.labels.length lc,.slice A t.args.length ac]
   have hb2:=hb1'.trans (hbx.mono hb1'.size)
   have p2:=p1.below hbx p1.lt
   clear p1 hv1 hval hbx
   go_upto_region 2 with fail
   generalize w1.alloc (.cells #[.slice L t.labels.length lc,.slice A t.args.length ac] 180)=w2 at *
   obtain ⟨c0,c1,c2⟩:=p2.c3
   clear p2
   go_wp2_with fail
   refine HV.out.mono ?_
   rintro e w3 ⟨rfl,hb3⟩
   have hb3':=hb2.trans (hb3.mono hb2.size)
   have q3:=hq.below hb3 hq.lt
   have hv3:=hv2.up hb3
   clear hq hv2 HV c0 c1 c2
   cases hvb:validB t
   ·have hr:=Lib.hid (uniform_invalid t hvb)
    clear hvb q3 hv3
    go_wp2
    go_ret
    exact ⟨by rw [hr.out];rfl,hb3'⟩
   ·have HVB:=Lib.hid hvb
    have d1:w3.cell? ⟨w1.heap.size,1,none⟩=some (.slice A t.args.length ac):=q3.cell 1
    have hql:=q3.lt
    have hks:=hv3.kids
    have hm:=hks.here.1
    unfold maxLen at hm
    have hsk:=szTys_len t.args
    have hss:=size_le_sz t
    have hrow:=q3
    clear hvb hv3
    go_wp2
    go_loopw [23] (fun i wr=>∃ k:Nat,k≤t.args.length∧i=.int .i64 k∧(∀ j,(hj:j<t.args.length)→j<k→t.args[0]'(by omega)=t.args[j])∧Below w3.heap.size w3 wr) (fun i _=>t.args.length - (intOf i).toNat)
    case atStart=>exact ⟨0,Nat.zero_le _,rfl,fun j _ h=>absurd h (by omega),Below.refl _ _⟩
    case round=>
     obtain ⟨k,hk',rfl,hall,hb⟩:=hrel
     have HA:=Lib.hid hall
     clear hall
     have hbw:=hb3'.trans (hb.mono hb3'.size)
     by_cases hlt:k<t.args.length
     ·have h0:0<t.args.length:=by omega
      have i0:(0:Int)<(t.args.length:Int):=by omega
      obtain ⟨g,M,mc,C,cc,hA1,hgl,e0,e1,e2,hT⟩:=(hks.up hb).elem k hlt
      obtain ⟨g',M',mc',C',cc',hA2,hgl',y0,y1,y2,hT'⟩:=(hks.up hb).elem 0 h0
      rw [hA1] at hA2
      cases hA2
      subst hA1
      have hpt:=szTy_part t.args k hlt
      have hps:=size_le_sz t.args[k]
      have hbx:=(Below.refl wr.heap.size wr).alloc (Nat.le_refl _) (.cells #[.int .i64 t.args[k].kind,.slice M t.args[k].labels.length mc,.slice C t.args[k].args.length cc] 27)
      have hab:=Whole1.new wr 27 #[.int .i64 t.args[k].kind,.slice M t.args[k].labels.length mc,.slice C t.args[k].args.length cc]
      have hqx:=(q3.below hb hql).below hbx (Nat.lt_of_lt_of_le hql hb.size)
      have HTX:=Lib.hid (hT.up hbx)
      have HTY:=Lib.hid (hT'.up hbx)
      have y0x:=kC hbx y0 hgl
      have y1x:=kC hbx y1 hgl
      have y2x:=kC hbx y2 hgl
      have HBX:=Lib.hid (hb.trans (hbx.mono hb.size))
      clear hT hT' hbx y0 y1 y2 hb hbw
      go_upto_region 7 with fail
      generalize wr.alloc (.cells #[.int .i64 t.args[k].kind,.slice M t.args[k].labels.length mc,.slice C t.args[k].args.length cc] 27)=wx at *
      obtain ⟨k0,k1,k2⟩:=hab.c3
      have k3:wx.cell? ⟨w1.heap.size,1,none⟩=some (.slice (some ⟨g,0,none⟩) t.args.length ac):=hqx.cell 1
      clear e0 e1 e2
      refine wp_region_still_tail 5 (by kernel_rfl) (by kernel_rfl) ?_
      simp only [List.take_succ_cons,List.take_zero,List.drop_succ_cons,List.drop_zero]
      repeat still_step
      refine wpStill_nil ?_
      change wpList _ _ _ _ _ wx.drew
      have HTX2:=HTX.out.up (Below.refl _ _).drew
      have HTY2:=HTY.out.up (Below.refl _ _).drew
      have hbd:Below w3.heap.size w3 wx.drew:=HBX.out.drew
      clear k0 k1 k2 k3 y0x y1x y2x hab hqx
      generalize wx.drew=wd at *
      have HE:=Lib.hid (implEqual_any t.args[k] t.args[0] _ _ wd HTX2 HTY2 (by omega))
      clear HTX2 HTY2
      by_cases heq:t.args[k]=t.args[0]
      ·have hey:=eqTyB_yes heq
       rw [hey] at HE
       have HEQ:=Lib.hid heq
       clear heq hey
       go_wp2_with fail
       refine HE.out.mono ?_
       rintro e w5 ⟨rfl,hb5⟩
       go_wp2
       go_roundw
       case rel=>
        refine ⟨k+1,by omega,by go_num,fun j hj h=>?_,hbd.trans (hb5.mono hbd.size)⟩
        by_cases e:j=k
        ·subst e
         exact HEQ.out.symm
        ·exact HA.out j hj (by omega)
       case measure=>simp [intOf];omega
      ·have hen:=eqTyB_no heq
       rw [hen] at HE
       have hr:=Lib.hid (show uniformB t=false by
        have hk1:1≤k:=by
         rcases Nat.eq_zero_or_pos k with h | h
         ·subst h
          exact absurd rfl heq
         ·exact h
        exact uniform_no t k h0 hlt hk1 (fun e=>heq e.symm))
       clear heq hen
       go_wp2_with fail
       refine HE.out.mono ?_
       rintro e w5 ⟨rfl,hb5⟩
       go_wp2
       go_ret
       exact ⟨by rw [hr.out];rfl,hb3'.trans ((hbd.trans (hb5.mono hbd.size)).mono hb3'.size)⟩
     ·have hr:=Lib.hid (uniform_yes t HVB.out HKD.out fun j hj _=>HA.out j hj (by omega))
      go_wp2
      go_ret
      exact ⟨by rw [hr.out];rfl,hbw⟩
  ·have hr:=Lib.hid (uniform_nonrec t (by omega))
   have ha1:=ta_sumForm_recForm
   clear p1 hv1 hval
   go_wp2
   go_ret
   exact ⟨by rw [hr.out];rfl,hb1'.alloc hb1'.size _⟩
  ·have hr:=Lib.hid (uniform_nonrec t (by omega))
   have ha1:=ta_listForm_recForm
   clear p1 hv1 hval hts ht
   go_wp2
   go_ret
   exact ⟨by rw [hr.out];rfl,hb1'.alloc hb1'.size _⟩
end
section
set_option maxRecDepth 100000
set_option linter.unusedSimpArgs false
open Go.RowKit
attribute [local go_sem ↓] Go.wp_at_zero Go.wp_at_succ
set_option maxHeartbeats 1000000 in
theorem typElements_any {N:Nat→Prop} {u:Value} {r:Option (Ty×Int)} (t:Ty) (v:Value) (kd:Int) (w:World) (hN:∀ b,N b→b<w.heap.size) (hU:UnfitAt w u) (hv:OwnA N w v t) (hval:validB t=true) (hr:r=if t.kind=5 then t.args[0]?.map (·,kd) else none):
  Calls Tryz.prog 177 #[v,.int .i64 kd] w (TypPost N u r w):=by
 have HR:=Lib.hid hr
 clear hr
 have hse:=szTy_valid hval
 obtain ⟨L,lc,A,ac,rfl⟩:=hv.open
 obtain ⟨hb0,p0,z0,hs0⟩:=boxes2 w 27 83 #[.int .i64 t.kind,.slice L t.labels.length lc,.slice A t.args.length ac] #[.int .i64 0,.slice none 0 0,.slice none 0 0,.int .i64 0]
 have hv0:=(hv.late (w.heap.size+1) (by omega)).up hb0
 have hN0:∀ b,(N b∨b=w.heap.size+1)→b<((w.alloc (.cells #[.int .i64 t.kind,.slice L t.labels.length lc,.slice A t.args.length ac] 27)).alloc (.cells #[.int .i64 0,.slice none 0 0,.slice none 0 0,.int .i64 0] 83)).heap.size:=fun b hb=>hb.elim (fun hb=>Nat.lt_of_lt_of_le (hN b hb) hb0.size) (fun e=>e ▸ z0.lt)
 have HU0:=Lib.hid (hU.below hb0)
 have HZ:=Lib.hid (show w.heap.size≤w.heap.size+1 by omega)
 clear hv hU hN hs0
 go_enter Tryz.func177,Tryz.ntmps177
 go_upto_region 1 with fail
 generalize (w.alloc (.cells #[.int .i64 t.kind,.slice L t.labels.length lc,.slice A t.args.length ac] 27)).alloc (.cells #[.int .i64 0,.slice none 0 0,.slice none 0 0,.int .i64 0] 83)=w0 at *
 obtain ⟨c0,c1,c2⟩:=p0.c3
 by_cases h5:t.kind=5
 ·have i1:(t.kind != 5)=false:=by simp [h5]
  obtain ⟨k,ls,ts⟩:=t
  simp only [Ty.kind,Ty.labels,Ty.args] at *
  subst h5
  obtain ⟨te,rfl⟩:=list_one hval
  obtain ⟨g,L',lc',A',ac',rfl,hg,x0,x1,x2,hx⟩:=hv0.elem 0 (by simp [Ty.args])
  have hse1:szTy te≤660:=sz_argV hval 0 (by simp [Ty.args])
  have y0:w0.cell? ⟨g,0,none⟩=some (.int .i64 te.kind):=x0
  have y1:w0.cell? ⟨g,1,none⟩=some (.slice L' te.labels.length lc'):=x1
  have y2:w0.cell? ⟨g,2,none⟩=some (.slice A' te.args.length ac'):=x2
  have hy:OwnA (fun b=>N b∨b=w.heap.size+1) w0 (.agg #[.int .i64 te.kind,.slice L' te.labels.length lc',.slice A' te.args.length ac']) te:=hx
  clear x0 x1 x2 hx
  have HF:=Lib.hid (fun a b c d=>typ_fin (u:=u) (r:=r) (kd:=kd) HZ.out hb0 hy (by omega) (.inr ⟨HR.out,rfl⟩) a b c d)
  obtain ⟨d0,d1,d2,d3⟩:=z0.c4
  obtain ⟨df0,df1,df2,df3⟩:=z0.f4
  clear hy hv0 hval hb0 p0 z0 HU0 HZ hse hse1 hg hN0
  go_wp2
  exact bodyPost_ret (v:=.tuple #[.agg #[.int .i64 te.kind,.slice L' te.labels.length lc',.slice A' te.args.length ac',.int .i64 kd],.nilIface]) (by simp [results,Tryz.results177,go_sem,d0,d1,d2,d3]) rfl (HF.out _ _ _ _)
 ·have i1:(t.kind != 5)=true:=by simpa using h5
  have HRN:=Lib.hid (HR.out.trans (if_neg h5))
  have HB:=Lib.hid hb0
  have HU:=HU0
  have zz:=z0
  clear h5 hv0 hval hb0 p0 z0 HU0 HZ hse hN0
  obtain ⟨d0,d1,d2,d3⟩:=zz.c4
  obtain ⟨df0,df1,df2,df3⟩:=zz.f4
  have e0:=dC d0
  have ef0:=dF df0
  have e1:=dC d1
  have ef1:=dF df1
  have e2:=dC d2
  have ef2:=dF df2
  have e3:=dC d3
  have ef3:=dF df3
  obtain ⟨_,hu,ua,hua⟩:=HU.out
  subst hua
  have hud:=dC hu
  have HF:=Lib.hid (typ_none (N:=N) (u:=(.iface 246 (.pointer (some ua)))) HB.out HRN.out)
  have HG:=Lib.hid (fun a b c d=>typ_drew (typ_none4 (N:=N) (u:=(.iface 246 (.pointer (some ua)))) (show w.heap.size≤w.heap.size+1 by omega) HB.out HRN.out a b c d))
  clear zz HU HB HRN
  go_wp2
  go_region
  go_wp2
  first | exact bodyPost_ret (v:=.tuple #[.agg #[.int .i64 0,.slice none 0 0,.slice none 0 0,.int .i64 0],.iface 246 (.pointer (some ua))]) (by simp [results,Tryz.results177,go_sem,d0,d1,d2,d3,e0,e1,e2,e3]) rfl HF.out | exact bodyPost_ret (v:=.tuple #[.agg #[.int .i64 0,.slice none 0 0,.slice none 0 0,.int .i64 0],.iface 246 (.pointer (some ua))]) (by simp [results,Tryz.results177,go_sem,d0,d1,d2,d3,e0,e1,e2,e3]) rfl (HG.out _ _ _ _)
set_option maxHeartbeats 1000000 in
theorem typChange_any {N:Nat→Prop} {u:Value} {r:Option (Ty×Int)} (t:Ty) (v:Value) (asked:Int) (w:World) (hN:∀ b,N b→b<w.heap.size) (hU:UnfitAt w u) (hv:OwnA N w v t) (hval:validB t=true) (hr:r=if t.kind=asked then some (t,1) else none):
  Calls Tryz.prog 179 #[v,.int .i64 asked] w (TypPost N u r w):=by
 have HR:=Lib.hid hr
 clear hr
 have hse:=szTy_valid hval
 obtain ⟨L,lc,A,ac,rfl⟩:=hv.open
 obtain ⟨hb0,p0,z0,hs0⟩:=boxes2 w 27 83 #[.int .i64 t.kind,.slice L t.labels.length lc,.slice A t.args.length ac] #[.int .i64 0,.slice none 0 0,.slice none 0 0,.int .i64 0]
 have hv0:=(hv.late (w.heap.size+1) (by omega)).up hb0
 have hN0:∀ b,(N b∨b=w.heap.size+1)→b<((w.alloc (.cells #[.int .i64 t.kind,.slice L t.labels.length lc,.slice A t.args.length ac] 27)).alloc (.cells #[.int .i64 0,.slice none 0 0,.slice none 0 0,.int .i64 0] 83)).heap.size:=fun b hb=>hb.elim (fun hb=>Nat.lt_of_lt_of_le (hN b hb) hb0.size) (fun e=>e ▸ z0.lt)
 have HU0:=Lib.hid (hU.below hb0)
 have HZ:=Lib.hid (show w.heap.size≤w.heap.size+1 by omega)
 clear hv hU hN hs0
 go_enter Tryz.func179,Tryz.ntmps179
 go_upto_region 1 with fail
 generalize (w.alloc (.cells #[.int .i64 t.kind,.slice L t.labels.length lc,.slice A t.args.length ac] 27)).alloc (.cells #[.int .i64 0,.slice none 0 0,.slice none 0 0,.int .i64 0] 83)=w0 at *
 obtain ⟨c0,c1,c2⟩:=p0.c3
 by_cases h5:t.kind=asked
 ·have i1:(t.kind != asked)=false:=by simp [h5]
  have HF:=Lib.hid (fun a b c d=>typ_fin (u:=u) (r:=r) (kd:=1) HZ.out hb0 hv0 (by omega) (.inr ⟨HR.out.trans (if_pos h5),rfl⟩) a b c d)
  obtain ⟨d0,d1,d2,d3⟩:=z0.c4
  obtain ⟨df0,df1,df2,df3⟩:=z0.f4
  clear hv0 hval hb0 p0 z0 HU0 HZ hse h5 hN0
  go_wp2
  exact bodyPost_ret (v:=.tuple #[.agg #[.int .i64 t.kind,.slice L t.labels.length lc,.slice A t.args.length ac,.int .i64 1],.nilIface]) (by simp [results,Tryz.results179,go_sem,d0,d1,d2,d3]) rfl (HF.out _ _ _ _)
 ·have i1:(t.kind != asked)=true:=by simpa using h5
  have HRN:=Lib.hid (HR.out.trans (if_neg h5))
  have HB:=Lib.hid hb0
  have HU:=HU0
  have zz:=z0
  clear h5 hv0 hval hb0 p0 z0 HU0 HZ hse hN0
  obtain ⟨d0,d1,d2,d3⟩:=zz.c4
  obtain ⟨df0,df1,df2,df3⟩:=zz.f4
  have e0:=dC d0
  have ef0:=dF df0
  have e1:=dC d1
  have ef1:=dF df1
  have e2:=dC d2
  have ef2:=dF df2
  have e3:=dC d3
  have ef3:=dF df3
  obtain ⟨_,hu,ua,hua⟩:=HU.out
  subst hua
  have hud:=dC hu
  have HF:=Lib.hid (typ_none (N:=N) (u:=(.iface 246 (.pointer (some ua)))) HB.out HRN.out)
  have HG:=Lib.hid (fun a b c d=>typ_drew (typ_none4 (N:=N) (u:=(.iface 246 (.pointer (some ua)))) (show w.heap.size≤w.heap.size+1 by omega) HB.out HRN.out a b c d))
  clear zz HU HB HRN
  go_wp2
  go_region
  go_wp2
  first | exact bodyPost_ret (v:=.tuple #[.agg #[.int .i64 0,.slice none 0 0,.slice none 0 0,.int .i64 0],.iface 246 (.pointer (some ua))]) (by simp [results,Tryz.results179,go_sem,d0,d1,d2,d3,e0,e1,e2,e3]) rfl HF.out | exact bodyPost_ret (v:=.tuple #[.agg #[.int .i64 0,.slice none 0 0,.slice none 0 0,.int .i64 0],.iface 246 (.pointer (some ua))]) (by simp [results,Tryz.results179,go_sem,d0,d1,d2,d3,e0,e1,e2,e3]) rfl (HG.out _ _ _ _)
set_option maxHeartbeats 1000000 in
theorem typFields_any {N:Nat→Prop} {u:Value} {r:Option (Ty×Int)} (t:Ty) (v:Value) (w:World) (hN:∀ b,N b→b<w.heap.size) (hU:UnfitAt w u) (hv:OwnA N w v t) (hval:validB t=true) (hr:r=if uniformB t then t.args[0]?.map (·,5) else none):
  Calls Tryz.prog 178 #[v] w (TypPost N u r w):=by
 have HR:=Lib.hid hr
 clear hr
 have hse:=szTy_valid hval
 obtain ⟨L,lc,A,ac,rfl⟩:=hv.open
 obtain ⟨hb0,p0,z0,hs0⟩:=boxes2 w 27 83 #[.int .i64 t.kind,.slice L t.labels.length lc,.slice A t.args.length ac] #[.int .i64 0,.slice none 0 0,.slice none 0 0,.int .i64 0]
 have hv0:=(hv.late (w.heap.size+1) (by omega)).up hb0
 have hN0:∀ b,(N b∨b=w.heap.size+1)→b<((w.alloc (.cells #[.int .i64 t.kind,.slice L t.labels.length lc,.slice A t.args.length ac] 27)).alloc (.cells #[.int .i64 0,.slice none 0 0,.slice none 0 0,.int .i64 0] 83)).heap.size:=fun b hb=>hb.elim (fun hb=>Nat.lt_of_lt_of_le (hN b hb) hb0.size) (fun e=>e ▸ z0.lt)
 have HU0:=Lib.hid (hU.below hb0)
 have HZ:=Lib.hid (show w.heap.size≤w.heap.size+1 by omega)
 clear hv hU hN hs0
 go_enter Tryz.func178,Tryz.ntmps178
 go_upto_region 1 with fail
 generalize (w.alloc (.cells #[.int .i64 t.kind,.slice L t.labels.length lc,.slice A t.args.length ac] 27)).alloc (.cells #[.int .i64 0,.slice none 0 0,.slice none 0 0,.int .i64 0] 83)=w0 at *
 have HC:=Lib.hid (implUniform_any t _ w0 hv0.own (by omega))
 have hpl:=p0.lt
 have hzl:=z0.lt
 obtain ⟨c0,c1,c2⟩:=p0.c3
 cases h5:uniformB t
 ·rw [h5] at HC
  have HRN:=Lib.hid (HR.out.trans (by rw [h5]))
  clear hv0 hN0 h5 hse hval HR
  go_wp2_with fail
  refine HC.out.mono ?_
  rintro e w1 ⟨rfl,hb1⟩
  have HB:=Lib.hid (hb0.trans (hb1.mono hb0.size))
  have HU:=Lib.hid (HU0.out.below hb1)
  have zz:=z0.below hb1 hzl
  clear c0 c1 c2 hb0 hb1 z0 p0 HU0 HZ hpl hzl HC
  obtain ⟨d0,d1,d2,d3⟩:=zz.c4
  obtain ⟨df0,df1,df2,df3⟩:=zz.f4
  have e0:=dC d0
  have ef0:=dF df0
  have e1:=dC d1
  have ef1:=dF df1
  have e2:=dC d2
  have ef2:=dF df2
  have e3:=dC d3
  have ef3:=dF df3
  obtain ⟨_,hu,ua,hua⟩:=HU.out
  subst hua
  have hud:=dC hu
  have HF:=Lib.hid (typ_none (N:=N) (u:=(.iface 246 (.pointer (some ua)))) HB.out HRN.out)
  have HG:=Lib.hid (fun a b c d=>typ_drew (typ_none4 (N:=N) (u:=(.iface 246 (.pointer (some ua)))) (show w.heap.size≤w.heap.size+1 by omega) HB.out HRN.out a b c d))
  clear zz HU HB HRN
  go_wp2
  go_region
  go_wp2
  first | exact bodyPost_ret (v:=.tuple #[.agg #[.int .i64 0,.slice none 0 0,.slice none 0 0,.int .i64 0],.iface 246 (.pointer (some ua))]) (by simp [results,Tryz.results178,go_sem,d0,d1,d2,d3,e0,e1,e2,e3]) rfl HF.out | exact bodyPost_ret (v:=.tuple #[.agg #[.int .i64 0,.slice none 0 0,.slice none 0 0,.int .i64 0],.iface 246 (.pointer (some ua))]) (by simp [results,Tryz.results178,go_sem,d0,d1,d2,d3,e0,e1,e2,e3]) rfl (HG.out _ _ _ _)
 ·rw [h5] at HC
  have hul:=uniform_first h5
  have HR2:=Lib.hid (HR.out.trans (by rw [h5,if_pos rfl,List.getElem?_eq_getElem hul,Option.map_some]))
  clear h5 HR
  go_wp2_with fail
  refine HC.out.mono ?_
  rintro e w1 ⟨rfl,hb1⟩
  have hb1':=hb0.trans (hb1.mono hb0.size)
  have p1:=p0.below hb1 hpl
  have z1:=z0.below hb1 hzl
  have hv1:=hv0.up hb1
  obtain ⟨g,L',lc',A',ac',rfl,hg,x0,x1,x2,hx⟩:=hv1.elem 0 hul
  have hse1:szTy t.args[0]≤660:=sz_argV hval 0 hul
  simp only [Nat.zero_mul,Nat.zero_add] at x0 x1 x2
  have hlz:t.args.length≠0:=by omega
  have hlI:(0:Int)<(t.args.length:Int):=by omega
  generalize t.args[0]=te at *
  generalize t.args.length=n at *
  have HF:=Lib.hid (fun a b c d=>typ_fin (u:=u) (r:=r) (kd:=5) HZ.out hb1' hx (by omega) (.inr ⟨HR2.out,rfl⟩) a b c d)
  obtain ⟨k0,k1,k2⟩:=p1.c3
  obtain ⟨d0,d1,d2,d3⟩:=z1.c4
  obtain ⟨df0,df1,df2,df3⟩:=z1.f4
  clear hx hv1 hv0 hval hb0 hb1 hb1' p0 z0 p1 z1 HU0 HZ HC hse hse1 hg hN0 hpl hzl HR2 c0 c1 c2
  go_wp2
  exact bodyPost_ret (v:=.tuple #[.agg #[.int .i64 te.kind,.slice L' te.labels.length lc',.slice A' te.args.length ac',.int .i64 5],.nilIface]) (by simp [results,Tryz.results178,go_sem,d0,d1,d2,d3]) rfl (HF.out _ _ _ _)
set_option maxHeartbeats 1000000 in
theorem typPart_any {N:Nat→Prop} {u:Value} {r:Option (Ty×Int)} (t:Ty) (v:Value) (asked:Int) (l:ByteArray) (kd:Int) (w:World) (hN:∀ b,N b→b<w.heap.size) (hU:UnfitAt w u) (hv:OwnA N w v t) (hval:validB t=true) (hr:r=if t.kind=asked then (partB t l).map (·,kd) else none):
  Calls Tryz.prog 176 #[v,.int .i64 asked,.string l,.int .i64 kd] w (TypPost N u r w):=by
 have HR:=Lib.hid hr
 clear hr
 have hse:=szTy_valid hval
 obtain ⟨L,lc,A,ac,rfl⟩:=hv.open
 obtain ⟨hb0,p0,z0,hs0⟩:=boxes2 w 27 83 #[.int .i64 t.kind,.slice L t.labels.length lc,.slice A t.args.length ac] #[.int .i64 0,.slice none 0 0,.slice none 0 0,.int .i64 0]
 have hv0:=(hv.late (w.heap.size+1) (by omega)).up hb0
 have hN0:∀ b,(N b∨b=w.heap.size+1)→b<((w.alloc (.cells #[.int .i64 t.kind,.slice L t.labels.length lc,.slice A t.args.length ac] 27)).alloc (.cells #[.int .i64 0,.slice none 0 0,.slice none 0 0,.int .i64 0] 83)).heap.size:=fun b hb=>hb.elim (fun hb=>Nat.lt_of_lt_of_le (hN b hb) hb0.size) (fun e=>e ▸ z0.lt)
 have HU0:=Lib.hid (hU.below hb0)
 have HZ:=Lib.hid (show w.heap.size≤w.heap.size+1 by omega)
 clear hv hU hN hs0
 go_enter Tryz.func176,Tryz.ntmps176
 go_upto_region 1 with fail
 generalize (w.alloc (.cells #[.int .i64 t.kind,.slice L t.labels.length lc,.slice A t.args.length ac] 27)).alloc (.cells #[.int .i64 0,.slice none 0 0,.slice none 0 0,.int .i64 0] 83)=w0 at *
 have HC:=Lib.hid (implPart_any t l _ w0 hv0.own (by omega))
 have hpl:=p0.lt
 have hzl:=z0.lt
 have hps:=sz_partB (s:=t) (l:=l)
 obtain ⟨c0,c1,c2⟩:=p0.c3
 clear hv0 hval
 go_wp2_with fail
 refine HC.out.mono ?_
 rintro e w1 ⟨v2,rfl,hv2,hb1⟩
 generalize hrr:partB t l=rr at *
 clear hrr
 have hv2a:=OwnA.of_in (N:=fun b=>N b∨b=w.heap.size+1) hv2 hN0
 generalize hpt:rr.getD zeroTy=pt at *
 obtain ⟨T1,U1,T2,U2,_,rfl,_⟩:=hv2.open
 have hb2:=(Below.refl w1.heap.size w1).alloc (Nat.le_refl _) (.cells #[.int .i64 pt.kind,.slice T1 pt.labels.length U1,.slice T2 pt.args.length U2] 27)
 have cb1:=hb0.trans (hb1.mono hb0.size)
 have cb2:=cb1.trans (hb2.mono cb1.size)
 have hv2b:=hv2a.up hb2
 have zz:=(z0.below hb1 hzl).below hb2 (z0.below hb1 hzl).lt
 have pp:=(p0.below hb1 hpl).below hb2 (p0.below hb1 hpl).lt
 have HU:=Lib.hid ((HU0.out.below hb1).below hb2)
 have HB:=Lib.hid cb2
 have nn:Whole1 (w1.alloc (.cells #[.int .i64 pt.kind,.slice T1 pt.labels.length U1,.slice T2 pt.args.length U2] 27)) w1.heap.size 27 #[.int .i64 pt.kind,.slice T1 pt.labels.length U1,.slice T2 pt.args.length U2]:=Whole1.new _ _ _
 have k0:(w1.alloc (.cells #[.int .i64 pt.kind,.slice T1 pt.labels.length U1,.slice T2 pt.args.length U2] 27)).cell? ⟨w.heap.size,0,none⟩=some (.int .i64 t.kind):=pp.cell 0
 clear hv2 hv2a hb1 hb2 cb1 cb2 hb0 z0 p0 hpl hzl HU0 HC c0 c1 c2 pp hN0
 by_cases h5:t.kind=asked
 ·have i1:(t.kind != asked)=false:=by simp [h5]
  have HR2:=Lib.hid (HR.out.trans (if_pos h5))
  clear h5 HR
  cases rr with
  | none=>
   have HRN:=Lib.hid (HR2.out.trans (rfl:((none:Option Ty).map (·,kd))=none))
   simp only [Option.isSome_none]
   clear HR2
   clear hv2b hps HZ hpt nn hse
   obtain ⟨d0,d1,d2,d3⟩:=zz.c4
   obtain ⟨df0,df1,df2,df3⟩:=zz.f4
   have e0:=dC d0
   have ef0:=dF df0
   have e1:=dC d1
   have ef1:=dF df1
   have e2:=dC d2
   have ef2:=dF df2
   have e3:=dC d3
   have ef3:=dF df3
   obtain ⟨_,hu,ua,hua⟩:=HU.out
   subst hua
   have hud:=dC hu
   have HF:=Lib.hid (typ_none (N:=N) (u:=(.iface 246 (.pointer (some ua)))) HB.out HRN.out)
   have HG:=Lib.hid (fun a b c d=>typ_drew (typ_none4 (N:=N) (u:=(.iface 246 (.pointer (some ua)))) (show w.heap.size≤w.heap.size+1 by omega) HB.out HRN.out a b c d))
   clear zz HU HB HRN
   go_wp2
   go_region
   go_wp2
   first | exact bodyPost_ret (v:=.tuple #[.agg #[.int .i64 0,.slice none 0 0,.slice none 0 0,.int .i64 0],.iface 246 (.pointer (some ua))]) (by simp [results,Tryz.results176,go_sem,d0,d1,d2,d3,e0,e1,e2,e3]) rfl HF.out | exact bodyPost_ret (v:=.tuple #[.agg #[.int .i64 0,.slice none 0 0,.slice none 0 0,.int .i64 0],.iface 246 (.pointer (some ua))]) (by simp [results,Tryz.results176,go_sem,d0,d1,d2,d3,e0,e1,e2,e3]) rfl (HG.out _ _ _ _)
  | some ra=>
   obtain rfl:ra=pt:=hpt
   simp only [Option.isSome_some]
   have HF:=Lib.hid (fun a b c d=>typ_fin (u:=u) (r:=r) (kd:=kd) HZ.out HB.out hv2b (Nat.le_trans hps (by omega)) (.inr ⟨HR2.out,rfl⟩) a b c d)
   obtain ⟨m0,m1,m2⟩:=nn.c3
   obtain ⟨d0,d1,d2,d3⟩:=zz.c4
   obtain ⟨df0,df1,df2,df3⟩:=zz.f4
   clear hv2b hps HZ nn zz HU HB hse
   go_wp2
   exact bodyPost_ret (v:=.tuple #[.agg #[.int .i64 ra.kind,.slice T1 ra.labels.length U1,.slice T2 ra.args.length U2,.int .i64 kd],.nilIface]) (by simp [results,Tryz.results176,go_sem,d0,d1,d2,d3]) rfl (HF.out _ _ _ _)
 ·have i1:(t.kind != asked)=true:=by simpa using h5
  have HRN:=Lib.hid (HR.out.trans (if_neg h5))
  clear h5 HR
  cases rr with
  | none=>
   simp only [Option.isSome_none]
   clear hv2b hps HZ hpt nn hse
   obtain ⟨d0,d1,d2,d3⟩:=zz.c4
   obtain ⟨df0,df1,df2,df3⟩:=zz.f4
   have e0:=dC d0
   have ef0:=dF df0
   have e1:=dC d1
   have ef1:=dF df1
   have e2:=dC d2
   have ef2:=dF df2
   have e3:=dC d3
   have ef3:=dF df3
   obtain ⟨_,hu,ua,hua⟩:=HU.out
   subst hua
   have hud:=dC hu
   have HF:=Lib.hid (typ_none (N:=N) (u:=(.iface 246 (.pointer (some ua)))) HB.out HRN.out)
   have HG:=Lib.hid (fun a b c d=>typ_drew (typ_none4 (N:=N) (u:=(.iface 246 (.pointer (some ua)))) (show w.heap.size≤w.heap.size+1 by omega) HB.out HRN.out a b c d))
   clear zz HU HB HRN
   go_wp2
   go_region
   go_wp2
   first | exact bodyPost_ret (v:=.tuple #[.agg #[.int .i64 0,.slice none 0 0,.slice none 0 0,.int .i64 0],.iface 246 (.pointer (some ua))]) (by simp [results,Tryz.results176,go_sem,d0,d1,d2,d3,e0,e1,e2,e3]) rfl HF.out | exact bodyPost_ret (v:=.tuple #[.agg #[.int .i64 0,.slice none 0 0,.slice none 0 0,.int .i64 0],.iface 246 (.pointer (some ua))]) (by simp [results,Tryz.results176,go_sem,d0,d1,d2,d3,e0,e1,e2,e3]) rfl (HG.out _ _ _ _)
  | some ra=>
   simp only [Option.isSome_some]
   clear hv2b hps HZ hpt nn hse
   obtain ⟨d0,d1,d2,d3⟩:=zz.c4
   obtain ⟨df0,df1,df2,df3⟩:=zz.f4
   have e0:=dC d0
   have ef0:=dF df0
   have e1:=dC d1
   have ef1:=dF df1
   have e2:=dC d2
   have ef2:=dF df2
   have e3:=dC d3
   have ef3:=dF df3
   obtain ⟨_,hu,ua,hua⟩:=HU.out
   subst hua
   have hud:=dC hu
   have HF:=Lib.hid (typ_none (N:=N) (u:=(.iface 246 (.pointer (some ua)))) HB.out HRN.out)
   have HG:=Lib.hid (fun a b c d=>typ_drew (typ_none4 (N:=N) (u:=(.iface 246 (.pointer (some ua)))) (show w.heap.size≤w.heap.size+1 by omega) HB.out HRN.out a b c d))
   clear zz HU HB HRN
   go_wp2
   go_region
   go_wp2
   first | exact bodyPost_ret (v:=.tuple #[.agg #[.int .i64 0,.slice none 0 0,.slice none 0 0,.int .i64 0],.iface 246 (.pointer (some ua))]) (by simp [results,Tryz.results176,go_sem,d0,d1,d2,d3,e0,e1,e2,e3]) rfl HF.out | exact bodyPost_ret (v:=.tuple #[.agg #[.int .i64 0,.slice none 0 0,.slice none 0 0,.int .i64 0],.iface 246 (.pointer (some ua))]) (by simp [results,Tryz.results176,go_sem,d0,d1,d2,d3,e0,e1,e2,e3]) rfl (HG.out _ _ _ _)
end
end Go.Proofs.YtfnblkcmcfofoaaGreatDoor
