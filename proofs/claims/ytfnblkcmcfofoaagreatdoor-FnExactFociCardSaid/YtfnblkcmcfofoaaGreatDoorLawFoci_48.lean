/- Lemmas: ImplHas. -/
import Derived.Test.YtfnblkcmcfofoaaGreatDoorLawFoci_45
import Derived.Test.YtfnblkcmcfofoaaGreatDoorLawFoci_34
import Derived.Test.YtfnblkcmcfofoaaGreatDoorLawFoci_12

namespace Go.Proofs.YtfnblkcmcfofoaaGreatDoor
set_option maxRecDepth 100000
open Go.RowKit
theorem th_intForm_intForm (x:Value) (w:World):(Instr.typeAssert (.iface 177 x) 174 177 true).run Tryz.prog w=.ok (.tuple #[x,.bool true]) w:=by kernel_rfl
theorem th_boolForm_intForm (x:Value) (w:World):(Instr.typeAssert (.iface 178 x) 174 177 true).run Tryz.prog w=.ok (.tuple #[.agg #[],.bool false]) w:=by kernel_rfl
theorem th_boolForm_boolForm (x:Value) (w:World):(Instr.typeAssert (.iface 178 x) 174 178 true).run Tryz.prog w=.ok (.tuple #[x,.bool true]) w:=by kernel_rfl
theorem th_recForm_intForm (x:Value) (w:World):(Instr.typeAssert (.iface 180 x) 174 177 true).run Tryz.prog w=.ok (.tuple #[.agg #[],.bool false]) w:=by kernel_rfl
theorem th_recForm_boolForm (x:Value) (w:World):(Instr.typeAssert (.iface 180 x) 174 178 true).run Tryz.prog w=.ok (.tuple #[.agg #[],.bool false]) w:=by kernel_rfl
theorem th_recForm_recForm (x:Value) (w:World):(Instr.typeAssert (.iface 180 x) 174 180 true).run Tryz.prog w=.ok (.tuple #[x,.bool true]) w:=by kernel_rfl
theorem th_sumForm_intForm (x:Value) (w:World):(Instr.typeAssert (.iface 182 x) 174 177 true).run Tryz.prog w=.ok (.tuple #[.agg #[],.bool false]) w:=by kernel_rfl
theorem th_sumForm_boolForm (x:Value) (w:World):(Instr.typeAssert (.iface 182 x) 174 178 true).run Tryz.prog w=.ok (.tuple #[.agg #[],.bool false]) w:=by kernel_rfl
theorem th_sumForm_recForm (x:Value) (w:World):(Instr.typeAssert (.iface 182 x) 174 180 true).run Tryz.prog w=.ok (.tuple #[.agg #[.slice none 0 0,.slice none 0 0],.bool false]) w:=by kernel_rfl
theorem th_sumForm_sumForm (x:Value) (w:World):(Instr.typeAssert (.iface 182 x) 174 182 true).run Tryz.prog w=.ok (.tuple #[x,.bool true]) w:=by kernel_rfl
theorem th_listForm_intForm (x:Value) (w:World):(Instr.typeAssert (.iface 184 x) 174 177 true).run Tryz.prog w=.ok (.tuple #[.agg #[],.bool false]) w:=by kernel_rfl
theorem th_listForm_boolForm (x:Value) (w:World):(Instr.typeAssert (.iface 184 x) 174 178 true).run Tryz.prog w=.ok (.tuple #[.agg #[],.bool false]) w:=by kernel_rfl
theorem th_listForm_recForm (x:Value) (w:World):(Instr.typeAssert (.iface 184 x) 174 180 true).run Tryz.prog w=.ok (.tuple #[.agg #[.slice none 0 0,.slice none 0 0],.bool false]) w:=by kernel_rfl
theorem th_listForm_sumForm (x:Value) (w:World):(Instr.typeAssert (.iface 184 x) 174 182 true).run Tryz.prog w=.ok (.tuple #[.agg #[.slice none 0 0,.slice none 0 0],.bool false]) w:=by kernel_rfl
theorem th_listForm_listForm (x:Value) (w:World):(Instr.typeAssert (.iface 184 x) 174 184 true).run Tryz.prog w=.ok (.tuple #[x,.bool true]) w:=by kernel_rfl
def IsOfOne (v:Va):Prop:=∀ (t:Ty) (V V':Value) (w:World),VaAt w w.heap.size V v→TyAt w w.heap.size V' t→formVa v=true→formTy t=true→szTy t≤1048576→Calls Tryz.prog 120 #[V,V'] w (BoolIs (hasB v t) w)
set_option maxHeartbeats 4000000 in
theorem equalFunc_any (vs:List Va) (ts:List Ty) (A A':Option Addr) (c c':Nat) (w:World) (hall:∀ i,(h:i<vs.length)→IsOfOne vs[i]) (ha:VasAt w w.heap.size A vs) (ha':TysAt w w.heap.size A' ts) (hl:vs.length=ts.length)
  (hfv:∀ i,(h:i<vs.length)→formVa vs[i]=true) (hft:∀ i,(h:i<ts.length)→formTy ts[i]=true) (hsz:szTys ts≤1048576):
  Calls Tryz.prog 160 #[.slice A vs.length c,.slice A' ts.length c',.func (.func 120) #[] #[]] w (BoolIs (hasZip vs ts) w):=by
 have hm:=ha.1
 unfold maxLen at hm
 have HALL:=Lib.hid hall
 have HFV:=Lib.hid hfv
 have HFT:=Lib.hid hft
 have HL:=Lib.hid hl
 have hneq:((vs.length:Int) != (ts.length:Int))=false:=by rw [bne_eq_false_iff_eq];omega
 clear hall hfv hft hl
 go_enter Tryz.func160,Tryz.ntmps160
 go_wp2
 clear hneq
 go_loopw [17] (fun i wr=>∃ k:Nat,k≤vs.length∧i=.int .i64 k∧(∀ j,(h1:j<vs.length)→(h2:j<ts.length)→j<k→hasB vs[j] ts[j]=true)∧Below w.heap.size w wr) (fun i _=>vs.length - (intOf i).toNat)
 case atStart=>exact ⟨0,Nat.zero_le _,rfl,fun j _ _ h=>absurd h (by omega),Below.refl _ _⟩
 case round=>
  obtain ⟨k,hk,rfl,hall,hb⟩:=hrel
  have HA:=Lib.hid hall
  clear hall
  by_cases hlt:k<vs.length
  ·have hlt':k<ts.length:=by have:=HL.out;omega
   have hltI':(k:Int)<(ts.length:Int):=by omega
   obtain ⟨b,off,M,mc,C,cc,rfl,hbl,e0,e1,e2,e3,e4,htv⟩:=(ha.below hb).elem k hlt
   obtain ⟨b',off',M',mc',C',cc',rfl,hbl',f0,f1,f2,_,_,_,_,htt⟩:=(ha'.below hb).elem k hlt'
   have hpt:=szTy_part ts k hlt'
   obtain ⟨hbx,px,qx,hsx⟩:=boxes2 wr 41 27 #[.int .i64 vs[k].kind,.int .i64 vs[k].num,.string vs[k].name,.slice M vs[k].labels.length mc,.slice C vs[k].args.length cc] #[.int .i64 ts[k].kind,.slice M' ts[k].labels.length mc',.slice C' ts[k].args.length cc']
   have HT:=HALL.out k hlt ts[k] _ _ _ ((htv.more hb.size).up hbx) ((htt.more hb.size).up hbx) (HFV.out k hlt) (HFT.out k hlt') (by omega)
   have HBX:=Lib.hid hbx
   have hbs:=hb.size
   have hx1:(wr.alloc (.cells #[.int .i64 vs[k].kind,.int .i64 vs[k].num,.string vs[k].name,.slice M vs[k].labels.length mc,.slice C vs[k].args.length cc] 41)).cell? ⟨b',off'+k * 3,none⟩=some (.int .i64 ts[k].kind):=(((Below.refl wr.heap.size wr).alloc (Nat.le_refl _) (.cells #[.int .i64 vs[k].kind,.int .i64 vs[k].num,.string vs[k].name,.slice M vs[k].labels.length mc,.slice C vs[k].args.length cc] 41)).cell (p:=⟨b',off'+k * 3,none⟩) (Nat.lt_of_lt_of_le hbl' hbs)).trans f0
   have hx2:(wr.alloc (.cells #[.int .i64 vs[k].kind,.int .i64 vs[k].num,.string vs[k].name,.slice M vs[k].labels.length mc,.slice C vs[k].args.length cc] 41)).cell? ⟨b',off'+k * 3+1,none⟩=some (.slice M' ts[k].labels.length mc'):=(((Below.refl wr.heap.size wr).alloc (Nat.le_refl _) (.cells #[.int .i64 vs[k].kind,.int .i64 vs[k].num,.string vs[k].name,.slice M vs[k].labels.length mc,.slice C vs[k].args.length cc] 41)).cell (p:=⟨b',off'+k * 3+1,none⟩) (Nat.lt_of_lt_of_le hbl' hbs)).trans f1
   have hx3:(wr.alloc (.cells #[.int .i64 vs[k].kind,.int .i64 vs[k].num,.string vs[k].name,.slice M vs[k].labels.length mc,.slice C vs[k].args.length cc] 41)).cell? ⟨b',off'+k * 3+2,none⟩=some (.slice C' ts[k].args.length cc'):=(((Below.refl wr.heap.size wr).alloc (Nat.le_refl _) (.cells #[.int .i64 vs[k].kind,.int .i64 vs[k].num,.string vs[k].name,.slice M vs[k].labels.length mc,.slice C vs[k].args.length cc] 41)).cell (p:=⟨b',off'+k * 3+2,none⟩) (Nat.lt_of_lt_of_le hbl' hbs)).trans f2
   clear htv htt hbx hsx
   cases hk1:hasB vs[k] ts[k]
   ·rw [hk1] at HT
    have HT':=Lib.hid HT
    have hr:=Lib.hid (hasZip_no vs ts k hlt hlt' hk1)
    clear HT hk1
    go_wp2_with fail
    refine HT'.out.mono ?_
    rintro e w3 ⟨rfl,hb3⟩
    go_wp2
    go_ret
    exact ⟨by rw [hr.out];rfl,hb.trans ((HBX.out.trans (hb3.mono HBX.out.size)).mono hb.size)⟩
   ·rw [hk1] at HT
    have HT':=Lib.hid HT
    have HK:=Lib.hid hk1
    clear HT hk1
    go_wp2_with fail
    refine HT'.out.mono ?_
    rintro e w3 ⟨rfl,hb3⟩
    go_wp2
    go_roundw
    case rel=>
     refine ⟨k+1,by omega,by go_num,fun j h1 h2 h=>?_,hb.trans ((HBX.out.trans (hb3.mono HBX.out.size)).mono hb.size)⟩
     by_cases e:j=k
     ·subst e
      exact HK.out
     ·exact HA.out j h1 h2 (by omega)
    case measure=>simp [intOf];omega
  ·have hr:=Lib.hid (hasZip_yes vs ts (by have:=HL.out;omega) fun i h1 h2=>HA.out i h1 h2 (by omega))
   go_wp2
   go_ret
   exact ⟨by rw [hr.out];rfl,hb⟩
theorem isOther_any (v:Va) (t:Ty) (V:Value) (a b c:Value) (fb:Nat) (w:World) (hone:IsOfOne v) (hv:VaAt w w.heap.size V v) (ht:TyAt w w.heap.size (.agg #[a,b,c]) t) (hfb:Whole1 w fb 184 #[a,b,c]) (hfv:formVa v=true) (hft:formTy t=true) (hsz:szTy t≤1048576):
  Calls Tryz.prog 161 #[V,.pointer (some ⟨fb,0,none⟩)] w (BoolIs (!hasB v t) w):=by
 obtain ⟨L,lc,A,ac,rfl,_⟩:=hv.open
 obtain ⟨L2,lc2,A2,ac2,hv2,_⟩:=ht.open
 simp only [Value.agg.injEq,Array.mk.injEq,List.cons.injEq,and_true] at hv2
 obtain ⟨rfl,rfl,rfl⟩:=hv2
 obtain ⟨hb0,p0,hs0⟩:=boxes1 w 41 #[.int .i64 v.kind,.int .i64 v.num,.string v.name,.slice L v.labels.length lc,.slice A v.args.length ac]
 have HT:=Lib.hid (hone t _ _ _ (hv.up hb0) (ht.up hb0) hfv hft hsz)
 have g1:=hfb.below hb0 hfb.lt
 obtain ⟨c0,c1,c2⟩:=g1.c3
 clear hv ht hs0 hfb g1 hone
 go_enter Tryz.func161,Tryz.ntmps161
 go_wp2_with fail
 refine HT.out.mono ?_
 rintro e w1 ⟨rfl,hb1⟩
 cases hh:hasB v t
 ·go_wp2
  go_ret
  exact ⟨by rw [hh];rfl,hb0.trans (hb1.mono hb0.size)⟩
 ·go_wp2
  go_ret
  exact ⟨by rw [hh];rfl,hb0.trans (hb1.mono hb0.size)⟩
def FoundIs (b:Bool) (w:World) (e:Ending) (w':World):Prop:=∃ i:Int,e=.returned (.int .i64 i)∧(b=true→0≤i)∧(b=false→i=-1)∧i≤9223372036854775807∧Below w.heap.size w w'
set_option maxHeartbeats 4000000 in
theorem indexFunc_any (vs:List Va) (t:Ty) (A:Option Addr) (n:Nat) (a b c:Value) (fb:Nat) (w:World) (hall:∀ i,(h:i<vs.length)→IsOfOne vs[i]) (ha:VasAt w w.heap.size A vs) (ht:TyAt w w.heap.size (.agg #[a,b,c]) t) (hfb:Whole1 w fb 184 #[a,b,c])
  (hfv:∀ i,(h:i<vs.length)→formVa vs[i]=true) (hft:formTy t=true) (hsz:szTy t≤1048576):
  Calls Tryz.prog 191 #[.slice A vs.length n,.func (.func 161) #[] #[.pointer (some ⟨fb,0,none⟩)]] w (FoundIs (!hasEach vs (some t)) w):=by
 have hm:=ha.1
 unfold maxLen at hm
 have HC:=Lib.hid (fun k (hk:k<vs.length) V W (h:VaAt W W.heap.size V vs[k]) (h2:Below w.heap.size w W)=>isOther_any vs[k] t V a b c fb W (hall k hk) h (ht.up h2) (hfb.below h2 hfb.lt) (hfv k hk) hft hsz)
 clear hall hfv hft ht hfb
 go_enter Tryz.func191,Tryz.ntmps191
 go_wp2
 go_loopw [8] (fun i wr=>∃ k:Nat,k≤vs.length∧i=.int .i64 k∧(∀ j,(h1:j<vs.length)→j<k→hasB vs[j] t=true)∧Below w.heap.size w wr) (fun i _=>vs.length - (intOf i).toNat)
 case atStart=>exact ⟨0,Nat.zero_le _,rfl,fun j _ h=>absurd h (by omega),Below.refl _ _⟩
 case round=>
  obtain ⟨k,hk,rfl,hall,hb⟩:=hrel
  have HA:=Lib.hid hall
  clear hall
  by_cases hlt:k<vs.length
  ·have hltI:(k:Int)<(vs.length:Int):=by omega
   obtain ⟨b,off,M,mc,C,cc,rfl,hbl,e0,e1,e2,e3,e4,htv⟩:=(ha.below hb).elem k hlt
   have HT:=HC.out k hlt _ wr (htv.more hb.size) hb
   clear htv
   cases hk1:hasB vs[k] t
   ·rw [hk1] at HT
    have HT':=Lib.hid HT
    have hr:=Lib.hid (show (!hasEach vs (some t))=true by rw [hasEach_no vs t k hlt hk1];rfl)
    clear HT hk1
    go_wp2_with fail
    refine HT'.out.mono ?_
    rintro e w3 ⟨rfl,hb3⟩
    go_wp2
    go_ret
    exact ⟨_,rfl,fun _=>by omega,fun h=>(by rw [hr.out] at h;cases h),by omega,hb.trans (hb3.mono hb.size)⟩
   ·rw [hk1] at HT
    have HT':=Lib.hid HT
    have HK:=Lib.hid hk1
    clear HT hk1
    go_wp2_with fail
    refine HT'.out.mono ?_
    rintro e w3 ⟨rfl,hb3⟩
    go_wp2
    go_roundw
    case rel=>
     refine ⟨k+1,by omega,by go_num,fun j h1 h=>?_,hb.trans (hb3.mono hb.size)⟩
     by_cases e:j=k
     ·subst e
      exact HK.out
     ·exact HA.out j h1 (by omega)
    case measure=>simp [intOf];omega
  ·have hr:=Lib.hid (show (!hasEach vs (some t))=false by rw [hasEach_yes vs t fun i h1=>HA.out i h1 (by omega)];rfl)
   go_wp2
   go_ret
   exact ⟨_,rfl,fun h=>(by rw [hr.out] at h;cases h),fun _=>rfl,by omega,hb⟩
theorem containsFunc_any (vs:List Va) (t:Ty) (A:Option Addr) (n:Nat) (a b c:Value) (fb:Nat) (w:World) (hall:∀ i,(h:i<vs.length)→IsOfOne vs[i]) (ha:VasAt w w.heap.size A vs) (ht:TyAt w w.heap.size (.agg #[a,b,c]) t) (hfb:Whole1 w fb 184 #[a,b,c])
  (hfv:∀ i,(h:i<vs.length)→formVa vs[i]=true) (hft:formTy t=true) (hsz:szTy t≤1048576):
  Calls Tryz.prog 162 #[.slice A vs.length n,.func (.func 161) #[] #[.pointer (some ⟨fb,0,none⟩)]] w (BoolIs (!hasEach vs (some t)) w):=by
 have HX:=Lib.hid (indexFunc_any vs t A n a b c fb w hall ha ht hfb hfv hft hsz)
 clear hall ha ht hfb hfv hft
 go_enter Tryz.func162,Tryz.ntmps162
 go_wp2_with fail
 refine HX.out.mono ?_
 rintro e w1 ⟨i,rfl,h1,h2,_,hb1⟩
 cases hh:!hasEach vs (some t)
 ·have:=h2 hh
  subst this
  clear h1 h2
  go_wp2
  go_ret
  exact ⟨by rw [hh];rfl,hb1⟩
 ·have i0:i≥0:=h1 hh
  clear h1 h2
  go_wp2
  go_ret
  exact ⟨by rw [hh];rfl,hb1⟩
set_option maxHeartbeats 8000000 in
theorem isOfType_of (k0 n0:Int) (nm:ByteArray) (ls:List ByteArray) (vs:List Va) (hall:∀ i,(h:i<vs.length)→IsOfOne vs[i]):IsOfOne (.mk k0 n0 nm ls vs):=by
 intro t V V' w hv ht hfv hft hsz
 obtain ⟨tk,tl,ts⟩:=t
 have hse:=szTy_eq (.mk tk tl ts)
 obtain ⟨L,lc,A,ac,rfl,_,hn,_,hl,ha⟩:=hv.open
 have ht0:=ht
 obtain ⟨L',lc',A',ac',rfl,hn',_,hl',ha'⟩:=ht.open
 have hbu:=Lib.hid (show hasB (.mk k0 n0 nm ls vs) (.mk tk tl ts)=(if tk=1 then decide (k0=1) else if tk=2 then decide (k0=2) else if tk=3 then decide (k0=3)&&textsB ls tl&&hasZip vs ts else if tk=4 then decide (k0=4)&&decide (0≤idxOf tl nm)&&hasHead vs ts[(idxOf tl nm).toNat]? else decide (k0=5)&&hasEach vs ts[0]?) by rw [hasB];rfl)
 simp only [Va.kind,Va.num,Va.name,Va.labels,Va.args,Ty.kind,Ty.labels,Ty.args] at *
 obtain ⟨hnt,hft2⟩:=formTy_mk _ _ _ hft
 obtain ⟨hnv,hfv2⟩:=formVa_mk _ _ _ _ _ hfv
 have hm:=ha.1
 have hm':=ha'.1
 have hnl:tl.length<maxLen:=by unfold maxLen;omega
 unfold maxLen at hm hm'
 have hszs:szTys ts≤1048576:=by omega
 have HALL:=Lib.hid hall
 have HFT:=Lib.hid hft2
 have HFV:=Lib.hid hfv2
 have HNV:=Lib.hid hnv
 have HNT:=Lib.hid hnt
 have HN:=Lib.hid hn
 have HN':=Lib.hid hn'
 obtain ⟨hb0,p0,q0,hs0⟩:=boxes2 w 41 27 #[.int .i64 k0,.int .i64 n0,.string nm,.slice L ls.length lc,.slice A vs.length ac] #[.int .i64 tk,.slice L' tl.length lc',.slice A' ts.length ac']
 have HV:=Lib.hid (formOf_any tk tl ts L' A' lc' ac' _ (ht0.up hb0) hnl)
 have ha0:=ha.up hb0
 have ha0':=ha'.up hb0
 have hl0:=hl.up' hb0
 have hl0':=hl'.up' hb0
 clear hall hv ht ht0 hft hfv hft2 hfv2 hnv hnt hn hn' ha ha' hl hl' hs0 hse q0
 go_enter Tryz.func120,Tryz.ntmps120
 go_wp2_with fail
 generalize (w.alloc (.cells #[.int .i64 k0,.int .i64 n0,.string nm,.slice L ls.length lc,.slice A vs.length ac] 41)).alloc (.cells #[.int .i64 tk,.slice L' tl.length lc',.slice A' ts.length ac'] 27)=w0 at *
 refine HV.out.mono ?_
 rintro e w1 ⟨fv,rfl,hfv,hb1⟩
 have hb1':=hb0.trans (hb1.mono hb0.size)
 have p1:=p0.below hb1 p0.lt
 have HB1:=Lib.hid hb1
 have ha1:=Lib.hid (ha0.up hb1)
 have ha1':=Lib.hid (ha0'.up hb1)
 have hl1:=Lib.hid (hl0.up' hb1)
 have hl1':=Lib.hid (hl0'.up' hb1)
 clear HV hb0 hb1 p0 ha0 ha0' hl0 hl0'
 rcases hfv with ⟨h0,_⟩ | ⟨_,hfv⟩
 ·rw [HNT.out] at h0
  cases h0
 ·rcases hfv with ⟨rfl,hts,rfl⟩ | ⟨rfl,hts,rfl⟩ | ⟨rfl,rfl⟩ | ⟨rfl,rfl⟩ | ⟨rfl,a,b,c,t1,rfl,ht1,rfl⟩
  ·skip
   have haintForm:=th_intForm_intForm
   have hb2:=(Below.refl w1.heap.size w1).alloc (Nat.le_refl _) (.cells #[] 177)
   have p2:=p1.below hb2 p1.lt
   have c0:(w1.alloc (.cells #[] 177)).cell? ⟨w.heap.size,0,none⟩=some (.int .i64 k0):=p2.cell 0
   have c0':w1.cell? ⟨w.heap.size,0,none⟩=some (.int .i64 k0):=p1.cell 0
   clear p1 p2 hts
   by_cases hk:k0=1
   ·have i1:(k0 == 1)=true:=by rw [beq_iff_eq];exact hk
    have hr:=Lib.hid (show hasB (.mk k0 n0 nm ls vs) (.mk 1 tl ts)=true by rw [hbu.out];simp [hk])
    clear hk hbu
    go_wp2
    go_ret
    exact ⟨by rw [hr.out];rfl,hb1'.trans (hb2.mono hb1'.size)⟩
   ·have i1:(k0 == 1)=false:=by rw [beq_eq_false_iff_ne];exact hk
    have hr:=Lib.hid (show hasB (.mk k0 n0 nm ls vs) (.mk 1 tl ts)=false by rw [hbu.out];simp [hk])
    clear hk hbu
    go_wp2
    go_ret
    exact ⟨by rw [hr.out];rfl,hb1'.trans (hb2.mono hb1'.size)⟩
  ·skip
   have haintForm:=th_boolForm_intForm
   have haboolForm:=th_boolForm_boolForm
   have hb2:=(Below.refl w1.heap.size w1).alloc (Nat.le_refl _) (.cells #[] 178)
   have p2:=p1.below hb2 p1.lt
   have c0:(w1.alloc (.cells #[] 178)).cell? ⟨w.heap.size,0,none⟩=some (.int .i64 k0):=p2.cell 0
   have c0':w1.cell? ⟨w.heap.size,0,none⟩=some (.int .i64 k0):=p1.cell 0
   clear p1 p2 hts
   by_cases hk:k0=2
   ·have i1:(k0 == 2)=true:=by rw [beq_iff_eq];exact hk
    have hr:=Lib.hid (show hasB (.mk k0 n0 nm ls vs) (.mk 2 tl ts)=true by rw [hbu.out];simp [hk])
    clear hk hbu
    go_wp2
    go_ret
    exact ⟨by rw [hr.out];rfl,hb1'.trans (hb2.mono hb1'.size)⟩
   ·have i1:(k0 == 2)=false:=by rw [beq_eq_false_iff_ne];exact hk
    have hr:=Lib.hid (show hasB (.mk k0 n0 nm ls vs) (.mk 2 tl ts)=false by rw [hbu.out];simp [hk])
    clear hk hbu
    go_wp2
    go_ret
    exact ⟨by rw [hr.out];rfl,hb1'.trans (hb2.mono hb1'.size)⟩
  ·skip
   have haintForm:=th_recForm_intForm
   have haboolForm:=th_recForm_boolForm
   have harecForm:=th_recForm_recForm
   obtain ⟨hb2,f2,hs2⟩:=boxes1 w1 180 #[.slice L' tl.length lc',.slice A' ts.length ac']
   have p2:=p1.below hb2 p1.lt
   have hb2':=hb1'.trans (hb2.mono hb1'.size)
   have HSE:=Lib.hid (slicesEqual_any L L' lc lc' ls tl _ (hl1.out.up' hb2) (hl1'.out.up' hb2) HN.out)
   have ha2:=Lib.hid (ha1.out.up hb2)
   have ha2':=Lib.hid (ha1'.out.up hb2)
   have c0:(w1.alloc (.cells #[.slice L' tl.length lc',.slice A' ts.length ac'] 180)).cell? ⟨w.heap.size,0,none⟩=some (.int .i64 k0):=p2.cell 0
   have c3:(w1.alloc (.cells #[.slice L' tl.length lc',.slice A' ts.length ac'] 180)).cell? ⟨w.heap.size,3,none⟩=some (.slice L ls.length lc):=p2.cell 3
   clear p1 hs2 hl1 hl1' ha1 ha1'
   by_cases hk:k0=3
   ·subst hk
    have i1:((3:Int) == 3)=true:=by simp
    go_wp2_with fail
    clear c0 c3
    generalize w1.alloc (.cells #[.slice L' tl.length lc',.slice A' ts.length ac'] 180)=w2 at *
    refine HSE.out.mono ?_
    rintro e w3 ⟨rfl,n1,rfl⟩
    have hbd:=drewN_below w2 n1
    have p3:=p2.drewN n1
    have f3:=f2.drewN n1
    cases htx:textsB ls tl
    ·have hr:=Lib.hid (show hasB (.mk 3 n0 nm ls vs) (.mk 3 tl ts)=false by rw [hbu.out,htx];simp)
     clear htx hbu
     go_wp2
     go_ret
     exact ⟨by rw [hr.out];rfl,hb2'.trans (hbd.mono hb2'.size)⟩
    ·have hls:ls=tl:=by simpa [textsB] using htx
     have hvl:=nodeVB_rec _ _ _ _ HNV.out
     have hkd:=nodeB_kind _ _ _ HNT.out
     have hlen:vs.length=ts.length:=by
      rcases hkd with h | ⟨_,h,_⟩ | h
      ·omega
      ·rw [hvl,h,hls]
      ·omega
     have HR:=Lib.hid (show hasB (.mk 3 n0 nm ls vs) (.mk 3 tl ts)=hasZip vs ts by rw [hbu.out,htx];simp)
     have HEF:=Lib.hid (equalFunc_any vs ts A A' ac ac' (w2.drewN n1) HALL.out (ha2.out.up hbd) (ha2'.out.up hbd) hlen HFV.out HFT.out hszs)
     have hb3':=hb2'.trans (hbd.mono hb2'.size)
     clear htx hbu hls hvl hkd hlen hb2' hbd p2 f2 HSE
     generalize w2.drewN n1=w3 at *
     have d4:w3.cell? ⟨w.heap.size,4,none⟩=some (.slice A vs.length ac):=p3.cell 4
     have g1:w3.cell? ⟨w1.heap.size,1,none⟩=some (.slice A' ts.length ac'):=f3.cell 1
     go_wp2_with fail
     refine HEF.out.mono ?_
     rintro e w4 ⟨rfl,hb4⟩
     go_wp2
     go_ret
     exact ⟨by rw [HR.out];rfl,hb3'.trans (hb4.mono hb3'.size)⟩
   ·have i1:(k0 == 3)=false:=by rw [beq_eq_false_iff_ne];exact hk
    have hr:=Lib.hid (show hasB (.mk k0 n0 nm ls vs) (.mk 3 tl ts)=false by rw [hbu.out];simp [hk])
    clear hk hbu
    go_wp2
    go_ret
    exact ⟨by rw [hr.out];rfl,hb2'⟩
  ·skip
   have haintForm:=th_sumForm_intForm
   have haboolForm:=th_sumForm_boolForm
   have harecForm:=th_sumForm_recForm
   have hasumForm:=th_sumForm_sumForm
   obtain ⟨hb2,f2,hs2⟩:=boxes1 w1 182 #[.slice L' tl.length lc',.slice A' ts.length ac']
   have p2:=p1.below hb2 p1.lt
   have hb2':=hb1'.trans (hb2.mono hb1'.size)
   have HIX:=Lib.hid (implIndexOf_any L' lc' _ tl nm _ (hl1'.out.up' hb2) HN'.out)
   have ha2:=Lib.hid (ha1.out.up hb2)
   have ha2':=Lib.hid (ha1'.out.up hb2)
   have c0:(w1.alloc (.cells #[.slice L' tl.length lc',.slice A' ts.length ac'] 182)).cell? ⟨w.heap.size,0,none⟩=some (.int .i64 k0):=p2.cell 0
   have c2:(w1.alloc (.cells #[.slice L' tl.length lc',.slice A' ts.length ac'] 182)).cell? ⟨w.heap.size,2,none⟩=some (.string nm):=p2.cell 2
   have hpw:=p2.lt
   have hqw:=f2.lt
   clear p1 hs2 hl1 hl1' ha1 ha1'
   go_wp2_with fail
   clear c0 c2
   generalize w1.alloc (.cells #[.slice L' tl.length lc',.slice A' ts.length ac'] 182)=w2 at *
   refine HIX.out.mono ?_
   rintro e w3 ⟨rfl,rfl⟩
   have c0:w2.cell? ⟨w.heap.size,0,none⟩=some (.int .i64 k0):=p2.cell 0
   clear HIX
   by_cases hk:k0=4
   ·subst hk
    have i1:((4:Int) == 4)=true:=by simp
    by_cases hix:0≤idxOf tl nm
    ·have hix2:=idx_lt tl nm hix
     have hvl:=nodeVB_tag _ _ _ _ HNV.out
     have hkd:=nodeB_kind _ _ _ HNT.out
     obtain ⟨i,hi⟩:∃ i:Nat,idxOf tl nm=(i:Int):=⟨_,(Int.toNat_of_nonneg hix).symm⟩
     rw [hi] at hix hix2 hbu ⊢
     have hit:i<ts.length:=by
      simp at hix2
      rcases hkd with h | ⟨_,h,_⟩ | h
      ·omega
      ·omega
      ·omega
     have h0v:0<vs.length:=by omega
     have HR:=Lib.hid (show hasB (.mk 4 n0 nm ls vs) (.mk 4 tl ts)=hasB vs[0] ts[i] by rw [hbu.out];simp only [Int.toNat_natCast];rw [hasHead_at vs ts i h0v hit];simp [hix])
     clear hbu hi hix2 hvl hkd
     have hitI:(i:Int)<(ts.length:Int):=by omega
     have h0vI:(0:Int)<(vs.length:Int):=by omega
     have hixI:(i:Int)≥0:=by omega
     have c4:w2.cell? ⟨w.heap.size,4,none⟩=some (.slice A vs.length ac):=p2.cell 4
     have g1:w2.cell? ⟨w1.heap.size,1,none⟩=some (.slice A' ts.length ac'):=f2.cell 1
     obtain ⟨b,off,M,mc,C,cc,rfl,hbw,e0,e1,e2,e3,e4,htv⟩:=ha2.out.elem 0 h0v
     obtain ⟨b',off',M',mc',C',cc',rfl,hbw',f0,f1,f2',_,_,_,_,htt⟩:=ha2'.out.elem i hit
     rw [Nat.zero_mul,Nat.add_zero] at e0 e1 e2 e3 e4
     have hpt:=szTy_part ts i hit
     have HT':=Lib.hid (HALL.out 0 h0v ts[i] _ _ w2.drew (htv.up (Below.refl _ _).drew) (htt.up (Below.refl _ _).drew) (HFV.out 0 h0v) (HFT.out i hit) (by omega))
     have f2:=f2'
     clear htv htt hpt f2'
     generalize hx:hasB vs[0] ts[i]=x at *
     clear hx
     go_wp2
     go_region_held3 (fun x=>x.cell? ⟨w.heap.size,0,none⟩=some (.int .i64 4)∧x.cell? ⟨w.heap.size,4,none⟩=some (.slice (some ⟨b,off,none⟩) vs.length ac)∧x.cell? ⟨w1.heap.size,1,none⟩=some (.slice (some ⟨b',off',none⟩) ts.length ac')∧x.cell? ⟨b,off,none⟩=some (.int .i64 vs[0].kind)∧x.cell? ⟨b,off+1,none⟩=some (.int .i64 vs[0].num)∧x.cell? ⟨b,off+2,none⟩=some (.string vs[0].name)∧x.cell? ⟨b,off+3,none⟩=some (.slice M vs[0].labels.length mc)∧x.cell? ⟨b,off+4,none⟩=some (.slice C vs[0].args.length cc)∧x.cell? ⟨b',off'+i * 3,none⟩=some (.int .i64 ts[i].kind)∧x.cell? ⟨b',off'+i * 3+1,none⟩=some (.slice M' ts[i].labels.length mc')∧x.cell? ⟨b',off'+i * 3+2,none⟩=some (.slice C' ts[i].args.length cc')∧Below w2.heap.size w2 x) ((first | exact ⟨c0,c4,g1,e0,e1,e2,e3,e4,f0,f1,f2,(Below.refl _ _).drew⟩ | exact ⟨y0,y1,y2,k0,k1,k2,k3,k4,l0,l1,l2,k6⟩))
      (first | (go_at_call 120;refine HT'.out.mono ?_;rintro e w' ⟨rfl,hb3⟩;have k6:=(Below.refl w2.heap.size w2).drew.trans hb3;have y0:=(kC k6 c0 hpw);have y1:=(kC k6 c4 hpw);have y2:=(kC k6 g1 hqw);have k0:=(kC k6 e0 hbw);have k1:=(kC k6 e1 hbw);have k2:=(kC k6 e2 hbw);have k3:=(kC k6 e3 hbw);have k4:=(kC k6 e4 hbw);have l0:=(kC k6 f0 hbw');have l1:=(kC k6 f1 hbw');have l2:=(kC k6 f2 hbw')))
     go_wp2
     go_ret
     exact ⟨by rw [HR.out];rfl,hb2'.trans (k6.mono hb2'.size)⟩
    ·have hr:=Lib.hid (show hasB (.mk 4 n0 nm ls vs) (.mk 4 tl ts)=false by rw [hbu.out];simp [hix])
     have hixI:¬ idxOf tl nm≥0:=by omega
     have hixD:decide (0≤idxOf tl nm)=false:=by rw [decide_eq_false_iff_not];exact hix
     clear hbu hix
     generalize idxOf tl nm=ix at *
     go_wp2
     go_quiet (fail)
     go_wp2
     go_ret
     exact ⟨by rw [hr.out];rfl,hb2'.trans ⟨rfl,rfl,rfl,Nat.le_refl _,fun _ _=>rfl⟩⟩
   ·have i1:(k0 == 4)=false:=by rw [beq_eq_false_iff_ne];exact hk
    have hr:=Lib.hid (show hasB (.mk k0 n0 nm ls vs) (.mk 4 tl ts)=false by rw [hbu.out];simp [hk])
    clear hk hbu
    generalize idxOf tl nm=ix at *
    go_wp2
    go_quiet (fail)
    go_wp2
    go_ret
    exact ⟨by rw [hr.out];rfl,hb2'.trans ⟨rfl,rfl,rfl,Nat.le_refl _,fun _ _=>rfl⟩⟩
  ·skip
   have haintForm:=th_listForm_intForm
   have haboolForm:=th_listForm_boolForm
   have harecForm:=th_listForm_recForm
   have hasumForm:=th_listForm_sumForm
   have halistForm:=th_listForm_listForm
   obtain ⟨L2,lc2,A2,ac2,hv2,_⟩:=ht1.open
   simp only [Value.agg.injEq,Array.mk.injEq,List.cons.injEq,and_true] at hv2
   obtain ⟨rfl,rfl,rfl⟩:=hv2
   obtain ⟨hb2,f2,hs2⟩:=boxes1 w1 184 #[.int .i64 t1.kind,.slice L2 t1.labels.length lc2,.slice A2 t1.args.length ac2]
   have p2:=p1.below hb2 p1.lt
   have hb2':=hb1'.trans (hb2.mono hb1'.size)
   have ht2:=(ht1.up HB1.out).up hb2
   have hpt:=szTy_part [t1] 0 (by simp)
   have HCF:=Lib.hid (fun W (h:Below (w1.alloc (.cells #[.int .i64 t1.kind,.slice L2 t1.labels.length lc2,.slice A2 t1.args.length ac2] 184)).heap.size (w1.alloc (.cells #[.int .i64 t1.kind,.slice L2 t1.labels.length lc2,.slice A2 t1.args.length ac2] 184)) W)=>containsFunc_any vs t1 A ac _ _ _ w1.heap.size W HALL.out ((ha1.out.up hb2).up h) (ht2.up h) (f2.below h f2.lt) HFV.out (HFT.out 0 (by simp)) (by simp at hpt;omega))
   have c0:(w1.alloc (.cells #[.int .i64 t1.kind,.slice L2 t1.labels.length lc2,.slice A2 t1.args.length ac2] 184)).cell? ⟨w.heap.size,0,none⟩=some (.int .i64 k0):=p2.cell 0
   clear p1 hs2 hl1 hl1' ha1 ha1' ht1 ht2 hpt f2
   by_cases hk:k0=5
   ·subst hk
    have i1:((5:Int) == 5)=true:=by simp
    have HR:=Lib.hid (show hasB (.mk 5 n0 nm ls vs) (.mk 5 tl [t1])=hasEach vs (some t1) by rw [hbu.out];simp)
    have c4:(w1.alloc (.cells #[.int .i64 t1.kind,.slice L2 t1.labels.length lc2,.slice A2 t1.args.length ac2] 184)).cell? ⟨w.heap.size,4,none⟩=some (.slice A vs.length ac):=p2.cell 4
    clear hbu
    go_wp2_with fail
    refine (HCF.out _ (Below.refl _ _)).mono ?_
    rintro e w3 ⟨rfl,hb3⟩
    cases hh:hasEach vs (some t1)
    ·go_wp2
     go_ret
     exact ⟨by rw [HR.out,hh];rfl,hb2'.trans (hb3.mono hb2'.size)⟩
    ·go_wp2
     go_ret
     exact ⟨by rw [HR.out,hh];rfl,hb2'.trans (hb3.mono hb2'.size)⟩
   ·have i1:(k0 == 5)=false:=by rw [beq_eq_false_iff_ne];exact hk
    have hr:=Lib.hid (show hasB (.mk k0 n0 nm ls vs) (.mk 5 tl [t1])=false by rw [hbu.out];simp [hk])
    clear hk hbu
    go_wp2
    go_ret
    exact ⟨by rw [hr.out];rfl,hb2'⟩
theorem isOfType_any (v:Va):IsOfOne v:=by
 induction v using Va.ind with
 | h k n nm ls vs ih=>exact isOfType_of k n nm ls vs ih
set_option maxHeartbeats 2000000 in
theorem implHas_any (v:Va) (t:Ty) (V V':Value) (w:World) (hv:OwnV w V v) (ht:OwnT w V' t) (hF:FormsAt w) (hnum:numsB v=true) (hsz:szVa v≤1048576) (hsz':szTy t≤1048576):
  Calls Tryz.prog 66 #[V,V'] w (BoolIs (hasTypeB v t) w):=by
 have H1:=Lib.hid (fun V W h hf=>implIsValue_any v V W h hf hnum hsz)
 have H2:=Lib.hid (fun V W h=>implValid_any t V W h hsz')
 have H3:=Lib.hid (fun V V' W h h' e1 e2=>isOfType_any v t V V' W h h' e1 e2 hsz')
 obtain ⟨L,lc,A,ac,rfl,_⟩:=hv.open
 obtain ⟨L',lc',A',ac',rfl,_⟩:=ht.open
 obtain ⟨hb0,p0,q0,hs0⟩:=boxes2 w 41 27 #[.int .i64 v.kind,.int .i64 v.num,.string v.name,.slice L v.labels.length lc,.slice A v.args.length ac] #[.int .i64 t.kind,.slice L' t.labels.length lc',.slice A' t.args.length ac']
 have hv1:=hv.up hb0
 have ht1:=ht.up hb0
 have hF1:=hF.below hb0
 have hpl:=p0.lt
 have hql:=q0.lt
 clear hs0 hv ht hF
 go_enter Tryz.func66,Tryz.ntmps66
 go_wp2_with fail
 generalize (w.alloc (.cells #[.int .i64 v.kind,.int .i64 v.num,.string v.name,.slice L v.labels.length lc,.slice A v.args.length ac] 41)).alloc (.cells #[.int .i64 t.kind,.slice L' t.labels.length lc',.slice A' t.args.length ac'] 27)=w0 at *
 refine (H1.out _ w0 hv1 hF1).mono ?_
 rintro e w1 ⟨rfl,hb1⟩
 have hb1':=hb0.trans (hb1.mono hb0.size)
 cases e1:valueB v
 ·have hr:=Lib.hid (show hasTypeB v t=false by unfold hasTypeB;rw [e1];rfl)
  clear e1
  go_wp2
  go_ret
  exact ⟨by rw [hr.out];rfl,hb1'⟩
 ·have E1:=Lib.hid e1
  have p1:=p0.below hb1 hpl
  have q1:=q0.below hb1 hql
  have hv2:=hv1.up hb1
  have ht2:=ht1.up hb1
  obtain ⟨d0,d1,d2⟩:=q1.c3
  clear e1
  go_wp2_with fail
  refine (H2.out _ w1 ht2).mono ?_
  rintro e w2 ⟨rfl,hb2⟩
  have hb2':=hb1'.trans (hb2.mono hb1'.size)
  cases e2:validB t
  ·have hr:=Lib.hid (show hasTypeB v t=false by unfold hasTypeB;rw [e2];simp)
   clear e2
   go_wp2
   go_ret
   exact ⟨by rw [hr.out];rfl,hb2'⟩
  ·have p2:=p1.below hb2 p1.lt
   have q2:=q1.below hb2 q1.lt
   have hv3:=(hv2.up hb2).here
   have ht3:=(ht2.up hb2).here
   have E2:=Lib.hid e2
   have hfv:formVa v=true:=by
    have:=E1.out
    unfold valueB at this
    rw [Bool.and_eq_true] at this
    exact this.2
   have hft:formTy t=true:=by
    have:=E2.out
    unfold validB at this
    simp only [Bool.and_eq_true] at this
    exact this.2
   have HC:=Lib.hid (H3.out _ _ w2 hv3 ht3 hfv hft)
   have hr:=Lib.hid (show hasTypeB v t=hasB v t by unfold hasTypeB;rw [E1.out,E2.out];rfl)
   obtain ⟨c0,c1,c2,c3,c4⟩:=p2.c5
   obtain ⟨g0,g1,g2⟩:=q2.c3
   clear e2 hfv hft d0 d1 d2
   go_wp2_with fail
   refine HC.out.mono ?_
   rintro e w3 ⟨rfl,hb3⟩
   go_wp2
   go_ret
   exact ⟨by rw [hr.out];rfl,hb2'.trans (hb3.mono hb2'.size)⟩
end Go.Proofs.YtfnblkcmcfofoaaGreatDoor
