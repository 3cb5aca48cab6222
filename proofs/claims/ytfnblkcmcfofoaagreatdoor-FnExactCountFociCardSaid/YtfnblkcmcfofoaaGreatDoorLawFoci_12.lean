/- Lemmas: SpecHas. -/
import Derived.Test.YtfnblkcmcfofoaaGreatDoorLawFoci_11
import Derived.Test.YtfnblkcmcfofoaaGreatDoorLawFoci_10
import Derived.Test.YtfnblkcmcfofoaaGreatDoorLawFoci_9
import Derived.Deep.RegionHeld3

namespace Go.Proofs.YtfnblkcmcfofoaaGreatDoor
open Go.RowKit
mutual
def hasB:Va→Ty→Bool
 | .mk k _ nm ls vs,t=>
  if t.kind=1 then decide (k=1) else if t.kind=2 then decide (k=2)
  else if t.kind=3 then decide (k=3)&&textsB ls t.labels&&hasZip vs t.args
  else if t.kind=4 then decide (k=4)&&decide (0≤idxOf t.labels nm)&&hasHead vs t.args[(idxOf t.labels nm).toNat]?
  else decide (k=5)&&hasEach vs t.args[0]?
def hasZip:List Va→List Ty→Bool
 | [],_=>true
 | _::_,[]=>false
 | v::r,t::s=>hasB v t&&hasZip r s
def hasHead:List Va→Option Ty→Bool
 | v::_,some t=>hasB v t
 | _,_=>false
def hasEach:List Va→Option Ty→Bool
 | v::r,some t=>hasB v t&&hasEach r (some t)
 | _,_=>true
end
theorem hasZip_no:∀ (vs:List Va) (ts:List Ty) (i:Nat) (h1:i<vs.length) (h2:i<ts.length),hasB vs[i] ts[i]=false→hasZip vs ts=false
 | v::r,t::s,0,_,_,h=>by
  rw [hasZip]
  have:hasB v t=false:=h
  rw [this]
  rfl
 | v::r,t::s,i+1,h1,h2,h=>by
  rw [hasZip,hasZip_no r s i (by simpa using h1) (by simpa using h2) (by simpa using h),Bool.and_false]
theorem hasZip_yes:∀ (vs:List Va) (ts:List Ty),vs.length≤ts.length→(∀ i,(h1:i<vs.length)→(h2:i<ts.length)→hasB vs[i] ts[i]=true)→hasZip vs ts=true
 | [],_,_,_=>by rw [hasZip]
 | v::r,[],h,_=>absurd h (by simp)
 | v::r,t::s,h,hall=>by
  rw [hasZip,show hasB v t=true from hall 0 (by simp) (by simp),hasZip_yes r s (by simpa using h) fun i h1 h2=>hall (i+1) (by simpa using h1) (by simpa using h2)]
  rfl
theorem hasEach_no:∀ (vs:List Va) (t:Ty) (i:Nat) (h1:i<vs.length),hasB vs[i] t=false→hasEach vs (some t)=false
 | v::r,t,0,_,h=>by
  rw [hasEach]
  have:hasB v t=false:=h
  rw [this]
  rfl
 | v::r,t,i+1,h1,h=>by
  rw [hasEach,hasEach_no r t i (by simpa using h1) (by simpa using h),Bool.and_false]
theorem hasEach_yes:∀ (vs:List Va) (t:Ty),(∀ i,(h1:i<vs.length)→hasB vs[i] t=true)→hasEach vs (some t)=true
 | [],_,_=>by simp [hasEach]
 | v::r,t,hall=>by
  rw [hasEach,show hasB v t=true from hall 0 (by simp),hasEach_yes r t fun i h1=>hall (i+1) (by simpa using h1)]
  rfl
theorem hasHead_at (vs:List Va) (ts:List Ty) (i:Nat) (h0:0<vs.length) (h1:i<ts.length):hasHead vs ts[i]?=hasB vs[0] ts[i]:=by
 rw [List.getElem?_eq_getElem h1]
 cases vs with
 | nil=>simp at h0
 | cons v r=>rw [hasHead];rfl
theorem idx_lt (ss:List ByteArray) (s:ByteArray) (h:0≤idxOf ss s):(idxOf ss s).toNat<ss.length:=by
 by_cases hx:∃ k,∃ h:k<ss.length,ss[k].data.toList=s.data.toList∧∀ j,(hj:j<ss.length)→j<k→ss[j].data.toList≠s.data.toList
 ·obtain ⟨k,hk,h1,h2⟩:=hx
  rw [idxOf_at ss s k hk h1 h2]
  simpa using hk
 ·have:∀ k j,(hj:j<ss.length)→j<k→ss[j].data.toList≠s.data.toList:=by
   intro k
   induction k with
   | zero=>intro j _ h;omega
   | succ k ih=>
    intro j hj hjk he
    by_cases e:j=k
    ·subst e
     exact hx ⟨j,hj,he,ih⟩
    ·exact ih j hj (by omega) he
  rw [idxOf_none ss s fun j hj=>this ss.length j hj hj] at h
  omega
theorem formTy_mk (k:Int) (ls:List ByteArray) (ts:List Ty) (h:formTy (.mk k ls ts)=true):nodeB k ls ts.length=true∧∀ i,(h:i<ts.length)→formTy ts[i]=true:=by
 rw [formTy,Bool.and_eq_true] at h
 refine ⟨h.2,fun i hi=>?_⟩
 cases hf:formTy ts[i] with
 | true=>rfl
 | false=>rw [formTys_no ts i hi hf] at h;simp at h
theorem nodeB_kind (k:Int) (ls:List ByteArray) (m:Nat) (h:nodeB k ls m=true):(k=1∨k=2)∨((k=3∨k=4)∧m=ls.length∧1≤m)∨(k=5∧m=1):=by
 unfold nodeB labelsB at h
 split at h
 ·exact .inl (by assumption)
 ·split at h
  ·simp only [Bool.and_eq_true,decide_eq_true_eq] at h
   exact .inr (.inl ⟨by assumption,h.1,by omega⟩)
  ·split at h
   ·simp only [Bool.and_eq_true,decide_eq_true_eq] at h
    exact .inr (.inr ⟨by assumption,h.2⟩)
   ·cases h
theorem formVa_mk (k n:Int) (nm:ByteArray) (ls:List ByteArray) (vs:List Va) (h:formVa (.mk k n nm ls vs)=true):nodeVB k n nm ls vs.length=true∧∀ i,(h:i<vs.length)→formVa vs[i]=true:=by
 rw [formVa,Bool.and_eq_true] at h
 exact ⟨h.2,formVas_at vs h.1⟩
theorem nodeVB_rec (n:Int) (nm:ByteArray) (ls:List ByteArray) (m:Nat) (h:nodeVB 3 n nm ls m=true):m=ls.length:=by
 unfold nodeVB at h
 simp at h
 exact h.1.2
theorem nodeVB_tag (n:Int) (nm:ByteArray) (ls:List ByteArray) (m:Nat) (h:nodeVB 4 n nm ls m=true):m=1:=by
 unfold nodeVB at h
 simp at h
 exact h.2
def HasVOne (f:Nat) (v:Va):Prop:=∀ (t:Ty) (V V':Value) (w:World),VaAt w w.heap.size V v→TyAt w w.heap.size V' t→formVa v=true→formTy t=true→Calls Tryz.prog f #[V,V'] w (BoolIs (hasB v t) w)
set_option maxHeartbeats 8000000 in
theorem specHas_of (k0 n0:Int) (nm:ByteArray) (ls:List ByteArray) (vs:List Va) (hall:∀ i,(h:i<vs.length)→HasVOne 72 vs[i]):HasVOne 72 (.mk k0 n0 nm ls vs):=by
 intro t V V' w hv ht hfv hft
 obtain ⟨tk,tl,ts⟩:=t
 obtain ⟨L,lc,A,ac,rfl,hnm,hn,_,hl,ha⟩:=hv.open
 obtain ⟨L',lc',A',ac',rfl,hn',_,hl',ha'⟩:=ht.open
 have hbu:=Lib.hid (show hasB (.mk k0 n0 nm ls vs) (.mk tk tl ts)=(if tk=1 then decide (k0=1) else if tk=2 then decide (k0=2) else if tk=3 then decide (k0=3)&&textsB ls tl&&hasZip vs ts else if tk=4 then decide (k0=4)&&decide (0≤idxOf tl nm)&&hasHead vs ts[(idxOf tl nm).toNat]? else decide (k0=5)&&hasEach vs ts[0]?) by rw [hasB];rfl)
 simp only [Va.kind,Va.num,Va.name,Va.labels,Va.args,Ty.kind,Ty.labels,Ty.args] at *
 obtain ⟨hnt,hft2⟩:=formTy_mk _ _ _ hft
 obtain ⟨hnv,hfv2⟩:=formVa_mk _ _ _ _ _ hfv
 have hkinds:=nodeB_kind _ _ _ hnt
 have hm:=ha.1
 have hm':=ha'.1
 unfold maxLen at hm hm'
 have HALL:=Lib.hid hall
 have HFT:=Lib.hid hft2
 have HFV:=Lib.hid hfv2
 have HNV:=Lib.hid hnv
 have HN:=Lib.hid hn
 have HN':=Lib.hid hn'
 clear hall hv ht hft hfv hft2 hfv2 hnv hnt hn hn'
 obtain ⟨hb0,p0,q0,hs0⟩:=boxes2 w 41 27 #[.int .i64 k0,.int .i64 n0,.string nm,.slice L ls.length lc,.slice A vs.length ac] #[.int .i64 tk,.slice L' tl.length lc',.slice A' ts.length ac']
 have ha0:=ha.up hb0
 have ha0':=ha'.up hb0
 have hl0:=hl.up' hb0
 have hl0':=hl'.up' hb0
 have hpl:=p0.lt
 have hql:=q0.lt
 have HZ:=Lib.hid hs0
 clear ha ha' hl hl' hs0
 rcases hkinds with h12 | ⟨h34,hlen0,hpos⟩ | ⟨h5,hone⟩
 ·rcases h12 with rfl | rfl
  ·by_cases hk:k0=1
   ·have i1:(k0 == 1)=true:=by rw [beq_iff_eq];exact hk
    have hr:=Lib.hid (show hasB (.mk k0 n0 nm ls vs) (.mk 1 tl ts)=true by rw [hbu.out];simp [hk])
    clear hk hbu
    go_enter Tryz.func72,Tryz.ntmps72
    go_wp2
    go_ret
    exact ⟨by rw [hr.out];rfl,hb0⟩
   ·have i1:(k0 == 1)=false:=by rw [beq_eq_false_iff_ne];exact hk
    have hr:=Lib.hid (show hasB (.mk k0 n0 nm ls vs) (.mk 1 tl ts)=false by rw [hbu.out];simp [hk])
    clear hk hbu
    go_enter Tryz.func72,Tryz.ntmps72
    go_wp2
    go_ret
    exact ⟨by rw [hr.out];rfl,hb0⟩
  ·by_cases hk:k0=2
   ·have i1:(k0 == 2)=true:=by rw [beq_iff_eq];exact hk
    have hr:=Lib.hid (show hasB (.mk k0 n0 nm ls vs) (.mk 2 tl ts)=true by rw [hbu.out];simp [hk])
    clear hk hbu
    go_enter Tryz.func72,Tryz.ntmps72
    go_wp2
    go_ret
    exact ⟨by rw [hr.out];rfl,hb0⟩
   ·have i1:(k0 == 2)=false:=by rw [beq_eq_false_iff_ne];exact hk
    have hr:=Lib.hid (show hasB (.mk k0 n0 nm ls vs) (.mk 2 tl ts)=false by rw [hbu.out];simp [hk])
    clear hk hbu
    go_enter Tryz.func72,Tryz.ntmps72
    go_wp2
    go_ret
    exact ⟨by rw [hr.out];rfl,hb0⟩
 ·have hlen:=Lib.hid hlen0
  clear hlen0 hpos
  rcases h34 with rfl | rfl
  ·by_cases hk:k0=3
   ·subst hk
    have hvl:=Lib.hid (nodeVB_rec _ _ _ _ HNV.out)
    have i1:((3:Int) != 3)=false:=by simp
    go_enter Tryz.func72,Tryz.ntmps72
    go_wp2_with fail
    generalize (w.alloc (.cells #[.int .i64 3,.int .i64 n0,.string nm,.slice L ls.length lc,.slice A vs.length ac] 41)).alloc (.cells #[.int .i64 3,.slice L' tl.length lc',.slice A' ts.length ac'] 27)=w0 at *
    refine (specTexts_any L L' lc lc' ls tl w0 hl0 hl0' HN.out).mono ?_
    rintro e w1 ⟨rfl,n1,rfl⟩
    have hbd:=hb0.trans ((drewN_below w0 n1).mono hb0.size)
    have p1:=p0.drewN n1
    have q1:=q0.drewN n1
    have ha1:=ha0.up (drewN_below w0 n1)
    have ha1':=ha0'.up (drewN_below w0 n1)
    have hpl1:=p1.lt
    have hql1:=q1.lt
    clear p0 q0 ha0 ha0' hb0 hpl hql hl0 hl0'
    generalize w0.drewN n1=w1 at *
    cases htx:textsB ls tl
    ·have hr:=Lib.hid (show hasB (.mk 3 n0 nm ls vs) (.mk 3 tl ts)=false by rw [hbu.out,htx];simp)
     clear htx hbu
     go_wp2
     go_ret
     exact ⟨by rw [hr.out];rfl,hbd⟩
    ·have hls:ls=tl:=by simpa [textsB] using htx
     have hlt0:vs.length≤ts.length:=by rw [hvl.out,hlen.out,hls];exact Nat.le_refl _
     have HR:=Lib.hid (show hasB (.mk 3 n0 nm ls vs) (.mk 3 tl ts)=hasZip vs ts by rw [hbu.out,htx];simp)
     clear htx hbu hls
     go_wp2
     go_loopw [5] (fun i wr=>∃ k:Nat,k≤vs.length∧i=.int .i64 k∧(∀ j,(h1:j<vs.length)→(h2:j<ts.length)→j<k→hasB vs[j] ts[j]=true)∧Below w1.heap.size w1 wr) (fun i _=>vs.length - (intOf i).toNat)
     case atStart=>exact ⟨0,Nat.zero_le _,rfl,fun j _ _ h=>absurd h (by omega),Below.refl _ _⟩
     case round=>
      obtain ⟨k,hk,rfl,hall,hb⟩:=hrel
      have HA:=Lib.hid hall
      clear hall
      have c4:wr.cell? ⟨w.heap.size,4,none⟩=some (.slice A vs.length ac):=(p1.below hb hpl1).cell 4
      have d2:wr.cell? ⟨w.heap.size+1,2,none⟩=some (.slice A' ts.length ac'):=(q1.below hb hql1).cell 2
      by_cases hlt:k<vs.length
      ·have hlt':k<ts.length:=by omega
       obtain ⟨b,off,M,mc,C,cc,rfl,hbl,e0,e1,e2,e3,e4,htv⟩:=(ha1.below hb).elem k hlt
       obtain ⟨b',off',M',mc',C',cc',rfl,hbl',f0,f1,f2,_,_,_,_,htt⟩:=(ha1'.below hb).elem k hlt'
       have hbs:=hb.size
       have hbw:b<wr.heap.size:=by omega
       have hbw':b'<wr.heap.size:=by omega
       have hpw:w.heap.size<wr.heap.size:=by omega
       have hqw:w.heap.size+1<wr.heap.size:=by omega
       have HT:=HALL.out k hlt ts[k] _ _ wr.drew ((htv.more hbs).up (Below.refl _ _).drew) ((htt.more hbs).up (Below.refl _ _).drew) (HFV.out k hlt) (HFT.out k hlt')
       cases hk1:hasB vs[k] ts[k]
       ·rw [hk1] at HT
        have HT':=Lib.hid HT
        have hr:=Lib.hid (show hasB (.mk 3 n0 nm ls vs) (.mk 3 tl ts)=false by rw [HR.out,hasZip_no vs ts k hlt hlt' hk1])
        clear htv htt HT hk1
        go_wp2
        go_region_held3 (fun w'=>w'.cell? ⟨w.heap.size,4,none⟩=some (.slice (some ⟨b,off,none⟩) vs.length ac)∧w'.cell? ⟨w.heap.size+1,2,none⟩=some (.slice (some ⟨b',off',none⟩) ts.length ac')∧w'.cell? ⟨b,off+k * 5,none⟩=some (.int .i64 vs[k].kind)∧w'.cell? ⟨b,off+k * 5+1,none⟩=some (.int .i64 vs[k].num)∧w'.cell? ⟨b,off+k * 5+2,none⟩=some (.string vs[k].name)∧w'.cell? ⟨b,off+k * 5+3,none⟩=some (.slice M vs[k].labels.length mc)∧w'.cell? ⟨b,off+k * 5+4,none⟩=some (.slice C vs[k].args.length cc)∧w'.cell? ⟨b',off'+k * 3,none⟩=some (.int .i64 ts[k].kind)∧w'.cell? ⟨b',off'+k * 3+1,none⟩=some (.slice M' ts[k].labels.length mc')∧w'.cell? ⟨b',off'+k * 3+2,none⟩=some (.slice C' ts[k].args.length cc')∧Below wr.heap.size wr w') ((first | exact ⟨c4,d2,e0,e1,e2,e3,e4,f0,f1,f2,(Below.refl _ _).drew⟩ | exact ⟨y0,y1,k0,k1,k2,k3,k4,l0,l1,l2,k6⟩))
         (first | (go_at_call 72;refine HT'.out.mono ?_;rintro e w' ⟨rfl,hb1⟩;have k6:=(Below.refl wr.heap.size wr).drew.trans hb1;have y0:=(kC k6 c4 hpw);have y1:=(kC k6 d2 hqw);have k0:=(kC k6 e0 hbw);have k1:=(kC k6 e1 hbw);have k2:=(kC k6 e2 hbw);have k3:=(kC k6 e3 hbw);have k4:=(kC k6 e4 hbw);have l0:=(kC k6 f0 hbw');have l1:=(kC k6 f1 hbw');have l2:=(kC k6 f2 hbw')))
        go_wp2
        go_ret
        exact ⟨by rw [hr.out];rfl,hbd.trans ((hb.trans (k6.mono hbs)).mono hbd.size)⟩
       ·rw [hk1] at HT
        have HT':=Lib.hid HT
        have HK:=Lib.hid hk1
        clear htv htt HT hk1
        go_wp2
        go_region_held3 (fun w'=>w'.cell? ⟨w.heap.size,4,none⟩=some (.slice (some ⟨b,off,none⟩) vs.length ac)∧w'.cell? ⟨w.heap.size+1,2,none⟩=some (.slice (some ⟨b',off',none⟩) ts.length ac')∧w'.cell? ⟨b,off+k * 5,none⟩=some (.int .i64 vs[k].kind)∧w'.cell? ⟨b,off+k * 5+1,none⟩=some (.int .i64 vs[k].num)∧w'.cell? ⟨b,off+k * 5+2,none⟩=some (.string vs[k].name)∧w'.cell? ⟨b,off+k * 5+3,none⟩=some (.slice M vs[k].labels.length mc)∧w'.cell? ⟨b,off+k * 5+4,none⟩=some (.slice C vs[k].args.length cc)∧w'.cell? ⟨b',off'+k * 3,none⟩=some (.int .i64 ts[k].kind)∧w'.cell? ⟨b',off'+k * 3+1,none⟩=some (.slice M' ts[k].labels.length mc')∧w'.cell? ⟨b',off'+k * 3+2,none⟩=some (.slice C' ts[k].args.length cc')∧Below wr.heap.size wr w') ((first | exact ⟨c4,d2,e0,e1,e2,e3,e4,f0,f1,f2,(Below.refl _ _).drew⟩ | exact ⟨y0,y1,k0,k1,k2,k3,k4,l0,l1,l2,k6⟩))
         (first | (go_at_call 72;refine HT'.out.mono ?_;rintro e w' ⟨rfl,hb1⟩;have k6:=(Below.refl wr.heap.size wr).drew.trans hb1;have y0:=(kC k6 c4 hpw);have y1:=(kC k6 d2 hqw);have k0:=(kC k6 e0 hbw);have k1:=(kC k6 e1 hbw);have k2:=(kC k6 e2 hbw);have k3:=(kC k6 e3 hbw);have k4:=(kC k6 e4 hbw);have l0:=(kC k6 f0 hbw');have l1:=(kC k6 f1 hbw');have l2:=(kC k6 f2 hbw')))
        go_wp2
        go_roundw
        case rel=>
         refine ⟨k+1,by omega,by go_num,fun j h1 h2 h=>?_,hb.trans (k6.mono hbs)⟩
         by_cases e:j=k
         ·subst e
          exact HK.out
         ·exact HA.out j h1 h2 (by omega)
        case measure=>simp [intOf];omega
      ·have hr:=Lib.hid (show hasB (.mk 3 n0 nm ls vs) (.mk 3 tl ts)=true by rw [HR.out,hasZip_yes vs ts hlt0 fun i h1 h2=>HA.out i h1 h2 (by omega)])
       go_wp2
       go_ret
       exact ⟨by rw [hr.out];rfl,hbd.trans (hb.mono hbd.size)⟩
   ·have i1:(k0 != 3)=true:=by rw [bne_iff_ne];exact hk
    have hr:=Lib.hid (show hasB (.mk k0 n0 nm ls vs) (.mk 3 tl ts)=false by rw [hbu.out];simp [hk])
    clear hk hbu
    go_enter Tryz.func72,Tryz.ntmps72
    go_wp2
    go_ret
    exact ⟨by rw [hr.out];rfl,hb0⟩
  ·have HIX:=Lib.hid (fun W hA=>specIndexOf_any L' lc' W.heap.size tl nm W hA HN'.out)
   by_cases hk:k0=4
   ·subst hk
    have hvl:=Lib.hid (nodeVB_tag _ _ _ _ HNV.out)
    have i1:((4:Int) == 4)=true:=by simp
    by_cases hix:0≤idxOf tl nm
    ·have hix2:=idx_lt tl nm hix
     obtain ⟨i,hi⟩:∃ i:Nat,idxOf tl nm=(i:Int):=⟨_,(Int.toNat_of_nonneg hix).symm⟩
     rw [hi] at hix hix2 HIX hbu
     have hit:i<ts.length:=by have:=hlen.out;simp at hix2;omega
     have h0v:0<vs.length:=by have:=hvl.out;omega
     have HR:=Lib.hid (show hasB (.mk 4 n0 nm ls vs) (.mk 4 tl ts)=hasB vs[0] ts[i] by rw [hbu.out];simp only [Int.toNat_natCast];rw [hasHead_at vs ts i h0v hit];simp [hix])
     clear hbu hi hix2
     have hitI:(i:Int)<(ts.length:Int):=by omega
     have h0vI:(0:Int)<(vs.length:Int):=by omega
     have hixI:(i:Int)≥0:=by omega
     go_enter Tryz.func72,Tryz.ntmps72
     go_wp2_with fail
     generalize (w.alloc (.cells #[.int .i64 4,.int .i64 n0,.string nm,.slice L ls.length lc,.slice A vs.length ac] 41)).alloc (.cells #[.int .i64 4,.slice L' tl.length lc',.slice A' ts.length ac'] 27)=w0 at *
     refine (HIX.out w0 hl0').mono ?_
     rintro e w1 ⟨rfl,rfl⟩
     have c0:w0.cell? ⟨w.heap.size,0,none⟩=some (.int .i64 4):=p0.cell 0
     have c4:w0.cell? ⟨w.heap.size,4,none⟩=some (.slice A vs.length ac):=p0.cell 4
     have d2:w0.cell? ⟨w.heap.size+1,2,none⟩=some (.slice A' ts.length ac'):=q0.cell 2
     obtain ⟨b,off,M,mc,C,cc,rfl,hbw,e0,e1,e2,e3,e4,htv⟩:=ha0.elem 0 h0v
     obtain ⟨b',off',M',mc',C',cc',rfl,hbw',f0,f1,f2,_,_,_,_,htt⟩:=ha0'.elem i hit
     rw [Nat.zero_mul,Nat.add_zero] at e0 e1 e2 e3 e4
     have hpw:=hpl
     have hqw:=hql
     have HT':=Lib.hid (HALL.out 0 h0v ts[i] _ _ w0.drew (htv.up (Below.refl _ _).drew) (htt.up (Below.refl _ _).drew) (HFV.out 0 h0v) (HFT.out i hit))
     clear htv htt ha0 ha0' hl0 hl0'
     generalize hx:hasB vs[0] ts[i]=x at *
     clear hx
     go_wp2
     go_region_held3 (fun w'=>w'.cell? ⟨w.heap.size,4,none⟩=some (.slice (some ⟨b,off,none⟩) vs.length ac)∧w'.cell? ⟨w.heap.size+1,2,none⟩=some (.slice (some ⟨b',off',none⟩) ts.length ac')∧w'.cell? ⟨b,off,none⟩=some (.int .i64 vs[0].kind)∧w'.cell? ⟨b,off+1,none⟩=some (.int .i64 vs[0].num)∧w'.cell? ⟨b,off+2,none⟩=some (.string vs[0].name)∧w'.cell? ⟨b,off+3,none⟩=some (.slice M vs[0].labels.length mc)∧w'.cell? ⟨b,off+4,none⟩=some (.slice C vs[0].args.length cc)∧w'.cell? ⟨b',off'+i * 3,none⟩=some (.int .i64 ts[i].kind)∧w'.cell? ⟨b',off'+i * 3+1,none⟩=some (.slice M' ts[i].labels.length mc')∧w'.cell? ⟨b',off'+i * 3+2,none⟩=some (.slice C' ts[i].args.length cc')∧w'.cell? ⟨w.heap.size,0,none⟩=some (.int .i64 4)∧Below w0.heap.size w0 w') ((first | exact ⟨c4,d2,e0,e1,e2,e3,e4,f0,f1,f2,c0,(Below.refl _ _).drew⟩ | exact ⟨y0,y1,k0,k1,k2,k3,k4,l0,l1,l2,z0,k6⟩))
      (first | (go_at_call 72;refine HT'.out.mono ?_;rintro e w' ⟨rfl,hb1⟩;have k6:=(Below.refl w0.heap.size w0).drew.trans hb1;have y0:=(kC k6 c4 hpw);have y1:=(kC k6 d2 hqw);have k0:=(kC k6 e0 hbw);have k1:=(kC k6 e1 hbw);have k2:=(kC k6 e2 hbw);have k3:=(kC k6 e3 hbw);have k4:=(kC k6 e4 hbw);have l0:=(kC k6 f0 hbw');have l1:=(kC k6 f1 hbw');have l2:=(kC k6 f2 hbw');have z0:=(kC k6 c0 hpw)))
     go_wp2
     go_ret
     exact ⟨by rw [HR.out];rfl,hb0.trans (k6.mono hb0.size)⟩
    ·have hr:=Lib.hid (show hasB (.mk 4 n0 nm ls vs) (.mk 4 tl ts)=false by rw [hbu.out];simp [hix])
     have hixI:¬ idxOf tl nm≥0:=by omega
     have hixD:decide (0≤idxOf tl nm)=false:=by rw [decide_eq_false_iff_not];exact hix
     clear hbu hix
     generalize idxOf tl nm=ix at *
     go_enter Tryz.func72,Tryz.ntmps72
     go_wp2_with fail
     generalize (w.alloc (.cells #[.int .i64 4,.int .i64 n0,.string nm,.slice L ls.length lc,.slice A vs.length ac] 41)).alloc (.cells #[.int .i64 4,.slice L' tl.length lc',.slice A' ts.length ac'] 27)=w0 at *
     refine (HIX.out w0 hl0').mono ?_
     rintro e w1 ⟨rfl,rfl⟩
     have c0:w0.cell? ⟨w.heap.size,0,none⟩=some (.int .i64 4):=p0.cell 0
     go_wp2
     go_quiet (fail)
     go_wp2
     go_ret
     exact ⟨by rw [hr.out];rfl,hb0.trans ⟨rfl,rfl,rfl,Nat.le_refl _,fun _ _=>rfl⟩⟩
   ·have i1:(k0 == 4)=false:=by rw [beq_eq_false_iff_ne];exact hk
    have hr:=Lib.hid (show hasB (.mk k0 n0 nm ls vs) (.mk 4 tl ts)=false by rw [hbu.out];simp [hk])
    clear hbu hk
    generalize idxOf tl nm=ix at *
    go_enter Tryz.func72,Tryz.ntmps72
    go_wp2_with fail
    generalize (w.alloc (.cells #[.int .i64 k0,.int .i64 n0,.string nm,.slice L ls.length lc,.slice A vs.length ac] 41)).alloc (.cells #[.int .i64 4,.slice L' tl.length lc',.slice A' ts.length ac'] 27)=w0 at *
    refine (HIX.out w0 hl0').mono ?_
    rintro e w1 ⟨rfl,rfl⟩
    have c0:w0.cell? ⟨w.heap.size,0,none⟩=some (.int .i64 k0):=p0.cell 0
    go_wp2
    go_quiet (fail)
    go_wp2
    go_ret
    exact ⟨by rw [hr.out];rfl,hb0.trans ⟨rfl,rfl,rfl,Nat.le_refl _,fun _ _=>rfl⟩⟩
 ·subst h5
  have h0t:0<ts.length:=by omega
  clear hone
  have h0tI:(0:Int)<(ts.length:Int):=by omega
  go_enter Tryz.func72,Tryz.ntmps72
  go_wp2
  generalize (w.alloc (.cells #[.int .i64 k0,.int .i64 n0,.string nm,.slice L ls.length lc,.slice A vs.length ac] 41)).alloc (.cells #[.int .i64 5,.slice L' tl.length lc',.slice A' ts.length ac'] 27)=w0 at *
  by_cases hk:k0=5
  ·subst hk
   have HR:=Lib.hid (show hasB (.mk 5 n0 nm ls vs) (.mk 5 tl ts)=hasEach vs (some ts[0]) by rw [hbu.out,List.getElem?_eq_getElem h0t];simp)
   clear hbu
   go_loopw [7] (fun i wr=>∃ k:Nat,k≤vs.length∧i=.int .i64 k∧(∀ j,(h1:j<vs.length)→j<k→hasB vs[j] ts[0]=true)∧Below w0.heap.size w0 wr) (fun i _=>vs.length - (intOf i).toNat)
   case atStart=>exact ⟨0,Nat.zero_le _,rfl,fun j _ h=>absurd h (by omega),Below.refl _ _⟩
   case round=>
    obtain ⟨k,hk,rfl,hall,hb⟩:=hrel
    have HA:=Lib.hid hall
    clear hall
    have c0:wr.cell? ⟨w.heap.size,0,none⟩=some (.int .i64 5):=(p0.below hb hpl).cell 0
    have c4:wr.cell? ⟨w.heap.size,4,none⟩=some (.slice A vs.length ac):=(p0.below hb hpl).cell 4
    have d2:wr.cell? ⟨w.heap.size+1,2,none⟩=some (.slice A' ts.length ac'):=(q0.below hb hql).cell 2
    by_cases hlt:k<vs.length
    ·have hltI:(k:Int)<(vs.length:Int):=by omega
     obtain ⟨b,off,M,mc,C,cc,rfl,hbl,e0,e1,e2,e3,e4,htv⟩:=(ha0.below hb).elem k hlt
     obtain ⟨b',off',M',mc',C',cc',rfl,hbl',f0,f1,f2,_,_,_,_,htt⟩:=(ha0'.below hb).elem 0 h0t
     rw [Nat.zero_mul,Nat.add_zero] at f0 f1 f2
     have hbs:=hb.size
     have hbw:b<wr.heap.size:=by omega
     have hbw':b'<wr.heap.size:=by omega
     have hpw:w.heap.size<wr.heap.size:=by omega
     have hqw:w.heap.size+1<wr.heap.size:=by omega
     have HT:=HALL.out k hlt ts[0] _ _ wr.drew ((htv.more hbs).up (Below.refl _ _).drew) ((htt.more hbs).up (Below.refl _ _).drew) (HFV.out k hlt) (HFT.out 0 h0t)
     cases hk1:hasB vs[k] ts[0]
     ·rw [hk1] at HT
      have HT':=Lib.hid HT
      have hr:=Lib.hid (show hasB (.mk 5 n0 nm ls vs) (.mk 5 tl ts)=false by rw [HR.out,hasEach_no vs ts[0] k hlt hk1])
      clear htv htt HT hk1
      go_wp2
      go_region_held3 (fun w'=>w'.cell? ⟨w.heap.size,4,none⟩=some (.slice (some ⟨b,off,none⟩) vs.length ac)∧w'.cell? ⟨w.heap.size+1,2,none⟩=some (.slice (some ⟨b',off',none⟩) ts.length ac')∧w'.cell? ⟨b,off+k * 5,none⟩=some (.int .i64 vs[k].kind)∧w'.cell? ⟨b,off+k * 5+1,none⟩=some (.int .i64 vs[k].num)∧w'.cell? ⟨b,off+k * 5+2,none⟩=some (.string vs[k].name)∧w'.cell? ⟨b,off+k * 5+3,none⟩=some (.slice M vs[k].labels.length mc)∧w'.cell? ⟨b,off+k * 5+4,none⟩=some (.slice C vs[k].args.length cc)∧w'.cell? ⟨b',off',none⟩=some (.int .i64 ts[0].kind)∧w'.cell? ⟨b',off'+1,none⟩=some (.slice M' ts[0].labels.length mc')∧w'.cell? ⟨b',off'+2,none⟩=some (.slice C' ts[0].args.length cc')∧Below wr.heap.size wr w') ((first | exact ⟨c4,d2,e0,e1,e2,e3,e4,f0,f1,f2,(Below.refl _ _).drew⟩ | exact ⟨y0,y1,k0,k1,k2,k3,k4,l0,l1,l2,k6⟩))
       (first | (go_at_call 72;refine HT'.out.mono ?_;rintro e w' ⟨rfl,hb1⟩;have k6:=(Below.refl wr.heap.size wr).drew.trans hb1;have y0:=(kC k6 c4 hpw);have y1:=(kC k6 d2 hqw);have k0:=(kC k6 e0 hbw);have k1:=(kC k6 e1 hbw);have k2:=(kC k6 e2 hbw);have k3:=(kC k6 e3 hbw);have k4:=(kC k6 e4 hbw);have l0:=(kC k6 f0 hbw');have l1:=(kC k6 f1 hbw');have l2:=(kC k6 f2 hbw')))
      go_wp2
      go_ret
      exact ⟨by rw [hr.out];rfl,hb0.trans ((hb.trans (k6.mono hbs)).mono hb0.size)⟩
     ·rw [hk1] at HT
      have HT':=Lib.hid HT
      have HK:=Lib.hid hk1
      clear htv htt HT hk1
      go_wp2
      go_region_held3 (fun w'=>w'.cell? ⟨w.heap.size,4,none⟩=some (.slice (some ⟨b,off,none⟩) vs.length ac)∧w'.cell? ⟨w.heap.size+1,2,none⟩=some (.slice (some ⟨b',off',none⟩) ts.length ac')∧w'.cell? ⟨b,off+k * 5,none⟩=some (.int .i64 vs[k].kind)∧w'.cell? ⟨b,off+k * 5+1,none⟩=some (.int .i64 vs[k].num)∧w'.cell? ⟨b,off+k * 5+2,none⟩=some (.string vs[k].name)∧w'.cell? ⟨b,off+k * 5+3,none⟩=some (.slice M vs[k].labels.length mc)∧w'.cell? ⟨b,off+k * 5+4,none⟩=some (.slice C vs[k].args.length cc)∧w'.cell? ⟨b',off',none⟩=some (.int .i64 ts[0].kind)∧w'.cell? ⟨b',off'+1,none⟩=some (.slice M' ts[0].labels.length mc')∧w'.cell? ⟨b',off'+2,none⟩=some (.slice C' ts[0].args.length cc')∧Below wr.heap.size wr w') ((first | exact ⟨c4,d2,e0,e1,e2,e3,e4,f0,f1,f2,(Below.refl _ _).drew⟩ | exact ⟨y0,y1,k0,k1,k2,k3,k4,l0,l1,l2,k6⟩))
       (first | (go_at_call 72;refine HT'.out.mono ?_;rintro e w' ⟨rfl,hb1⟩;have k6:=(Below.refl wr.heap.size wr).drew.trans hb1;have y0:=(kC k6 c4 hpw);have y1:=(kC k6 d2 hqw);have k0:=(kC k6 e0 hbw);have k1:=(kC k6 e1 hbw);have k2:=(kC k6 e2 hbw);have k3:=(kC k6 e3 hbw);have k4:=(kC k6 e4 hbw);have l0:=(kC k6 f0 hbw');have l1:=(kC k6 f1 hbw');have l2:=(kC k6 f2 hbw')))
      go_wp2
      go_roundw
      case rel=>
       refine ⟨k+1,by omega,by go_num,fun j h1 h=>?_,hb.trans (k6.mono hbs)⟩
       by_cases e:j=k
       ·subst e
        exact HK.out
       ·exact HA.out j h1 (by omega)
      case measure=>simp [intOf];omega
    ·have hr:=Lib.hid (show hasB (.mk 5 n0 nm ls vs) (.mk 5 tl ts)=true by rw [HR.out,hasEach_yes vs ts[0] fun i h1=>HA.out i h1 (by omega)])
     go_wp2
     go_ret
     exact ⟨by rw [hr.out];rfl,hb0.trans (hb.mono hb0.size)⟩
  ·have i1:(k0 == 5)=false:=by rw [beq_eq_false_iff_ne];exact hk
   have hr:=Lib.hid (show hasB (.mk k0 n0 nm ls vs) (.mk 5 tl ts)=false by rw [hbu.out];simp [hk])
   clear hk hbu
   go_loopw [7] (fun i wr=>i=.int .i64 0∧Below w0.heap.size w0 wr) (fun i _=>0)
   case atStart=>exact ⟨rfl,Below.refl _ _⟩
   case round=>
    obtain ⟨rfl,hb⟩:=hrel
    have c0:wr.cell? ⟨w.heap.size,0,none⟩=some (.int .i64 k0):=(p0.below hb hpl).cell 0
    have c4:wr.cell? ⟨w.heap.size,4,none⟩=some (.slice A vs.length ac):=(p0.below hb hpl).cell 4
    by_cases hv0:vs.length=0
    ·have i2:¬ (0:Int)<(vs.length:Int):=by omega
     go_wp2
     go_ret
     exact ⟨by rw [hr.out];rfl,hb0.trans (hb.mono hb0.size)⟩
    ·have i2:(0:Int)<(vs.length:Int):=by omega
     go_wp2
     go_ret
     exact ⟨by rw [hr.out];rfl,hb0.trans (hb.mono hb0.size)⟩
theorem specHasV_any (v:Va):HasVOne 72 v:=by
 induction v using Va.ind with
 | h k n nm ls vs ih=>exact specHas_of k n nm ls vs ih
def hasTypeB (v:Va) (t:Ty):Bool:=valueB v&&validB t&&hasB v t
set_option maxHeartbeats 2000000 in
theorem specHas_any (v:Va) (t:Ty) (V V':Value) (w:World) (hv:VaAt w w.heap.size V v) (ht:TyAt w w.heap.size V' t) (hsz:szVa v≤1048576) (hsz':szTy t≤1048576):
  Calls Tryz.prog 29 #[V,V'] w (BoolIs (hasTypeB v t) w):=by
 have hv0:=hv
 have ht0:=ht
 have H1:=Lib.hid (fun V W h=>specIsValue_any v V W h hsz)
 have H2:=Lib.hid (fun V W h=>specValid_any t V W h hsz')
 have H3:=Lib.hid (fun V V' W h h' e1 e2=>specHasV_any v t V V' W h h' e1 e2)
 obtain ⟨L,lc,A,ac,rfl,_⟩:=hv.open
 obtain ⟨L',lc',A',ac',rfl,_⟩:=ht.open
 obtain ⟨hb0,p0,q0,hs0⟩:=boxes2 w 41 27 #[.int .i64 v.kind,.int .i64 v.num,.string v.name,.slice L v.labels.length lc,.slice A v.args.length ac] #[.int .i64 t.kind,.slice L' t.labels.length lc',.slice A' t.args.length ac']
 have hv1:=hv0.up hb0
 have ht1:=ht0.up hb0
 have hpl:=p0.lt
 have hql:=q0.lt
 clear hs0 hv hv0 ht ht0
 go_enter Tryz.func29,Tryz.ntmps29
 go_wp2_with fail
 generalize (w.alloc (.cells #[.int .i64 v.kind,.int .i64 v.num,.string v.name,.slice L v.labels.length lc,.slice A v.args.length ac] 41)).alloc (.cells #[.int .i64 t.kind,.slice L' t.labels.length lc',.slice A' t.args.length ac'] 27)=w0 at *
 refine (H1.out _ w0 hv1).mono ?_
 rintro e w1 ⟨rfl,hb1⟩
 have hb1':=hb0.trans (hb1.mono hb0.size)
 cases e1:valueB v
 ·have hr:=Lib.hid (show hasTypeB v t=false by unfold hasTypeB;rw [e1];rfl)
  clear e1
  go_wp2
  go_ret
  exact ⟨by rw [hr.out];rfl,hb1'⟩
 ·have E1:=Lib.hid e1
  have p1:=p0.below hb1 hpl
  have q1:=q0.below hb1 hql
  have hv2:=hv1.up hb1
  have ht2:=ht1.up hb1
  obtain ⟨d0,d1,d2⟩:=q1.c3
  clear e1
  go_wp2_with fail
  refine (H2.out _ w1 ht2).mono ?_
  rintro e w2 ⟨rfl,hb2⟩
  have hb2':=hb1'.trans (hb2.mono hb1'.size)
  cases e2:validB t
  ·have hr:=Lib.hid (show hasTypeB v t=false by unfold hasTypeB;rw [e2];simp)
   clear e2
   go_wp2
   go_ret
   exact ⟨by rw [hr.out];rfl,hb2'⟩
  ·have p2:=p1.below hb2 p1.lt
   have q2:=q1.below hb2 q1.lt
   have hv3:=hv2.up hb2
   have ht3:=ht2.up hb2
   have E2:=Lib.hid e2
   have hfv:formVa v=true:=by
    have:=E1.out
    unfold valueB at this
    rw [Bool.and_eq_true] at this
    exact this.2
   have hft:formTy t=true:=by
    have:=E2.out
    unfold validB at this
    simp only [Bool.and_eq_true] at this
    exact this.2
   have HC:=Lib.hid (H3.out _ _ w2 hv3 ht3 hfv hft)
   have hr:=Lib.hid (show hasTypeB v t=hasB v t by unfold hasTypeB;rw [E1.out,E2.out];rfl)
   obtain ⟨c0,c1,c2,c3,c4⟩:=p2.c5
   obtain ⟨g0,g1,g2⟩:=q2.c3
   clear e2 hfv hft d0 d1 d2
   go_wp2_with fail
   refine HC.out.mono ?_
   rintro e w3 ⟨rfl,hb3⟩
   go_wp2
   go_ret
   exact ⟨by rw [hr.out];rfl,hb2'.trans (hb3.mono hb2'.size)⟩
end Go.Proofs.YtfnblkcmcfofoaaGreatDoor
