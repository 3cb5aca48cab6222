/- Lemmas: SpecTy5. -/
import Derived.Test.YtfnblkcmcfofoaaGreatDoorLawFoci_8
import Derived.Test.YtfnblkcmcfofoaaGreatDoorLawFoci_9
import Derived.Test.YtfnblkcmcfofoaaGreatDoorLawFoci_6
import Derived.Deep.RegionHeld3

namespace Go.Proofs.YtfnblkcmcfofoaaGreatDoor
open Go.RowKit
def BoolIs (b:Bool) (w:World) (e:Ending) (w':World):Prop:=e=.returned (.bool b)∧Below w.heap.size w w'
theorem l1In_yes (x lo hi:Int) (w:World) (h1:lo≤x) (h2:x≤hi):Calls Tryz.prog 113 #[.int .i64 x,.int .i64 lo,.int .i64 hi] w fun e w'=>e=.returned (.bool true)∧w=w':=by
 go_enter Tryz.func113,Tryz.ntmps113
 go_wp2
 go_ret
 exact ⟨rfl,rfl⟩
theorem l1In_no (x lo hi:Int) (w:World) (h:x<lo∨hi<x):Calls Tryz.prog 113 #[.int .i64 x,.int .i64 lo,.int .i64 hi] w fun e w'=>e=.returned (.bool false)∧w=w':=by
 by_cases h1:lo≤x
 ·have h2:¬ x≤hi:=by omega
  clear h
  go_enter Tryz.func113,Tryz.ntmps113
  go_wp2
  go_ret
  exact ⟨rfl,rfl⟩
 ·clear h
  go_enter Tryz.func113,Tryz.ntmps113
  go_wp2
  go_ret
  exact ⟨rfl,rfl⟩
def labelsB (ls:List ByteArray):Bool:=ls.all isNameB&&(decide (1≤ls.length)&&decide (ls.length≤4))&&ascB ls
theorem labelsB_no (ls:List ByteArray) (k:Nat) (h:k<ls.length) (hn:isNameB ls[k]=false):labelsB ls=false:=by
 have:ls.all isNameB=false:=by
  rw [List.all_eq_false]
  exact ⟨_,List.getElem_mem h,by rw [hn];simp⟩
 unfold labelsB
 rw [this]
 rfl
theorem labelsB_all (ls:List ByteArray) (h:∀ k,(hk:k<ls.length)→isNameB ls[k]=true):labelsB ls=((decide (1≤ls.length)&&decide (ls.length≤4))&&ascB ls):=by
 have:ls.all isNameB=true:=by
  rw [List.all_eq_true]
  intro x hx
  obtain ⟨i,hi,rfl⟩:=List.getElem_of_mem hx
  exact h i hi
 unfold labelsB
 rw [this,Bool.true_and]
set_option maxHeartbeats 1000000 in
theorem specLabels_any (A:Option Addr) (c:Nat) (ss:List ByteArray) (w:World) (hA:StrsAt w w.heap.size A ss) (hn:ss.length<maxLen) (hs:∀ i,(h:i<ss.length)→ss[i].size≤maxLen):
  Calls Tryz.prog 134 #[.slice A ss.length c] w (BoolIs (labelsB ss) w):=by
 have hasc:=Lib.hid (specAreAscending_any A c w.heap.size ss w hA hn)
 unfold maxLen at hn
 have HS:=Lib.hid hs
 clear hs
 go_enter Tryz.func134,Tryz.ntmps134
 go_wp2
 go_loop [3] (fun i=>∃ k:Nat,k≤ss.length∧i=.int .i64 k∧∀ j,(hj:j<ss.length)→j<k→isNameB ss[j]=true) (fun i=>ss.length - (intOf i).toNat)
 case atStart=>exact ⟨0,Nat.zero_le _,rfl,fun j _ h=>absurd h (by omega)⟩
 case round=>
  obtain ⟨k,hk,rfl,hall⟩:=hrel
  have HA:=Lib.hid hall
  clear hall
  by_cases hlt:k<ss.length
  ·obtain ⟨b,off,rfl,_,hcell⟩:=hA k hlt
   have hnm:=specIsName_any ss[k] w (HS.out k hlt)
   cases hb:isNameB ss[k]
   ·have hd:=Lib.hid (labelsB_no ss k hlt hb)
    rw [hb] at hnm
    have HN:=Lib.hid hnm
    clear hb hnm
    go_wp2_with fail
    refine HN.out.mono ?_
    rintro e w1 ⟨rfl,rfl⟩
    go_wp2
    go_ret
    exact ⟨by rw [hd.out];rfl,Below.refl _ _⟩
   ·rw [hb] at hnm
    have HN:=Lib.hid hnm
    have HB:=Lib.hid hb
    clear hb hnm
    go_wp2_with fail
    refine HN.out.mono ?_
    rintro e w1 ⟨rfl,rfl⟩
    go_wp2
    go_round
    case rel=>
     refine ⟨k+1,by omega,by go_num,fun j hj h=>?_⟩
     by_cases e:j=k
     ·subst e
      exact HB.out
     ·exact HA.out j hj (by omega)
    case measure=>simp [intOf];omega
  ·have hd:=Lib.hid (labelsB_all ss (fun j hj=>HA.out j hj (by omega)))
   by_cases h1:1≤ss.length∧ss.length≤4
   ·have i1:(1:Int)≤ss.length:=by omega
    have i2:(ss.length:Int)≤4:=by omega
    have he:=Lib.hid (show labelsB ss=ascB ss by rw [hd.out];simp [h1])
    clear h1
    go_wp2_with fail
    refine (l1In_yes _ 1 4 w i1 i2).mono ?_
    rintro e w1 ⟨rfl,rfl⟩
    go_wp2_with fail
    refine hasc.out.mono ?_
    rintro e w1 ⟨rfl,n,rfl⟩
    go_wp2
    go_ret
    exact ⟨by rw [he.out];rfl,⟨rfl,rfl,rfl,Nat.le_refl _,fun _ _=>rfl⟩⟩
   ·have i1:(ss.length:Int)<1∨4<(ss.length:Int):=by omega
    have he:=Lib.hid (show labelsB ss=false by
     rw [hd.out]
     have:(decide (1≤ss.length)&&decide (ss.length≤4))=false:=by
      simp only [Bool.and_eq_false_iff,decide_eq_false_iff_not]
      omega
     rw [this]
     rfl)
    clear h1
    go_wp2_with fail
    refine (l1In_no _ 1 4 w i1).mono ?_
    rintro e w1 ⟨rfl,rfl⟩
    go_wp2
    go_ret
    exact ⟨by rw [he.out];rfl,Below.refl _ _⟩
def nodeB (k:Int) (ls:List ByteArray) (m:Nat):Bool:=
 if k=1∨k=2 then decide (ls.length=0)&&decide (m=0) else if k=3∨k=4 then decide (m=ls.length)&&labelsB ls else if k=5 then decide (ls.length=0)&&decide (m=1) else false
mutual
def formTy:Ty→Bool | .mk k ls ts=>formTys ts&&nodeB k ls ts.length
def formTys:List Ty→Bool | []=>true | t::r=>formTy t&&formTys r
end
theorem formTys_all:∀ (ts:List Ty),(∀ i,(h:i<ts.length)→formTy ts[i]=true)→formTys ts=true
 | [],_=>by rw [formTys]
 | t::r,h=>by
  rw [formTys,show formTy t=true from h 0 (by simp),formTys_all r fun i hi=>h (i+1) (by simpa using hi)]
  rfl
theorem formTys_no:∀ (ts:List Ty) (i:Nat) (h:i<ts.length),formTy ts[i]=false→formTys ts=false
 | [],i,h,_=>absurd h (by simp)
 | t::r,0,_,e=>by
  rw [formTys]
  have:formTy t=false:=e
  rw [this]
  rfl
 | t::r,i+1,h,e=>by
  rw [formTys,formTys_no r i (by simpa using h) (by simpa using e),Bool.and_false]
def FormOne (f:Nat) (t:Ty):Prop:=∀ (v:Value) (w:World),TyAt w w.heap.size v t→szTy t≤1048576→Calls Tryz.prog f #[v] w (BoolIs (formTy t) w)
set_option maxHeartbeats 4000000 in
theorem specForm_of (k0:Int) (ls:List ByteArray) (ts:List Ty) (hall:∀ i,(h:i<ts.length)→FormOne 106 ts[i]):FormOne 106 (.mk k0 ls ts):=by
 intro v w hv hsz
 have hse:=szTy_eq (.mk k0 ls ts)
 have hfe:formTy (.mk k0 ls ts)=(formTys ts&&nodeB k0 ls ts.length):=by rw [formTy]
 obtain ⟨L,lc,A,ac,rfl,hn,hz,hl,ha⟩:=hv.open
 simp only [Ty.kind,Ty.labels,Ty.args] at *
 have hm:=ha.1
 have hnl:ls.length<maxLen:=by unfold maxLen;omega
 unfold maxLen at hm hn
 have hsz2:szTys ts≤1048576:=by omega
 have HALL:=Lib.hid hall
 have HZ2:=Lib.hid hz
 have HFE:=Lib.hid hfe
 clear hall hv hz hfe hse
 obtain ⟨hb0,p0,hs0⟩:=boxes1 w 27 #[.int .i64 k0,.slice L ls.length lc,.slice A ts.length ac]
 have ha0:=ha.up hb0
 have hl0:=hl.up' hb0
 have HZ:=Lib.hid hs0
 clear ha hl hs0
 go_enter Tryz.func106,Tryz.ntmps106
 go_wp2
 generalize w.alloc (.cells #[.int .i64 k0,.slice L ls.length lc,.slice A ts.length ac] 27)=w0 at *
 have hpl:=p0.lt
 go_loopw [3] (fun i wr=>∃ k:Nat,k≤ts.length∧i=.int .i64 k∧(∀ j,(hj:j<ts.length)→j<k→formTy ts[j]=true)∧Below w0.heap.size w0 wr) (fun i _=>ts.length - (intOf i).toNat)
 case atStart=>exact ⟨0,Nat.zero_le _,rfl,fun j _ h=>absurd h (by omega),Below.refl _ _⟩
 case round=>
  obtain ⟨k,hk,rfl,hall,hb⟩:=hrel
  have HA:=Lib.hid hall
  clear hall
  have p1:=p0.below hb hpl
  have c2:wr.cell? ⟨w.heap.size,2,none⟩=some (.slice A ts.length ac):=p1.cell 2
  by_cases hlt:k<ts.length
  ·obtain ⟨b,off,L1,lc1,A1,ac1,rfl,hbl,q0,q1,q2,_,_,_,_,ht⟩:=(ha0.below hb).elem k hlt
   have hpt:=szTy_part ts k hlt
   have HT:=HALL.out k hlt _ wr (ht.more hb.size) (by omega)
   cases hfk:formTy ts[k]
   ·rw [hfk] at HT
    have HT':=Lib.hid HT
    have hr:=Lib.hid (show formTy (.mk k0 ls ts)=false by rw [HFE.out,formTys_no ts k hlt hfk];rfl)
    clear ht p1 HT hfk
    go_wp2_with fail
    refine HT'.out.mono ?_
    rintro e w1 ⟨rfl,hb1⟩
    go_wp2
    go_ret
    exact ⟨by rw [hr.out];rfl,hb0.trans ((hb.trans (hb1.mono hb.size)).mono hb0.size)⟩
   ·rw [hfk] at HT
    have HT':=Lib.hid HT
    have HK:=Lib.hid hfk
    clear ht p1 HT hfk
    go_wp2_with fail
    refine HT'.out.mono ?_
    rintro e w1 ⟨rfl,hb1⟩
    go_wp2
    go_roundw
    case rel=>
     refine ⟨k+1,by omega,by go_num,fun j hj h=>?_,hb.trans (hb1.mono hb.size)⟩
     by_cases e:j=k
     ·subst e
      exact HK.out
     ·exact HA.out j hj (by omega)
    case measure=>simp [intOf];omega
  ·have hke:k=ts.length:=by omega
   subst hke
   have hft:=Lib.hid (formTys_all ts fun i hi=>HA.out i hi hi)
   have c0:wr.cell? ⟨w.heap.size,0,none⟩=some (.int .i64 k0):=p1.cell 0
   have c1:wr.cell? ⟨w.heap.size,1,none⟩=some (.slice L ls.length lc):=p1.cell 1
   have hb':=hb0.trans (hb.mono hb0.size)
   have hres:Hid (formTy (.mk k0 ls ts)=nodeB k0 ls ts.length):=Lib.hid (by rw [HFE.out,hft.out];rfl)
   clear p1
   by_cases h12:k0=1∨k0=2
   ·have hnode:nodeB k0 ls ts.length=(decide (ls.length=0)&&decide (ts.length=0)):=by unfold nodeB;rw [if_pos h12]
    have HN:=Lib.hid hnode
    clear hnode
    by_cases hl1:ls.length=0
    ·by_cases ht1:ts.length=0
     ·have hr:=Lib.hid (show nodeB k0 ls ts.length=true by rw [HN.out];simp [hl1,ht1])
      have i1:((ls.length:Int) == 0)=true:=by rw [beq_iff_eq];omega
      have i2:((ts.length:Int) == 0)=true:=by rw [beq_iff_eq];omega
      clear hl1 ht1
      rcases h12 with rfl | rfl
      all_goals
       go_wp2
       go_ret
       exact ⟨by rw [hres.out,hr.out];rfl,hb'⟩
     ·have hr:=Lib.hid (show nodeB k0 ls ts.length=false by rw [HN.out];simp [ht1])
      have i1:((ls.length:Int) == 0)=true:=by rw [beq_iff_eq];omega
      have i2:((ts.length:Int) == 0)=false:=by rw [beq_eq_false_iff_ne];omega
      clear hl1 ht1
      rcases h12 with rfl | rfl
      all_goals
       go_wp2
       go_ret
       exact ⟨by rw [hres.out,hr.out];rfl,hb'⟩
    ·have hr:=Lib.hid (show nodeB k0 ls ts.length=false by rw [HN.out];simp [hl1])
     have i1:((ls.length:Int) == 0)=false:=by rw [beq_eq_false_iff_ne];omega
     clear hl1
     rcases h12 with rfl | rfl
     all_goals
      go_wp2
      go_ret
      exact ⟨by rw [hres.out,hr.out];rfl,hb'⟩
   ·have e1:(k0 == 1)=false:=by rw [beq_eq_false_iff_ne];omega
    have e2:(k0 == 2)=false:=by rw [beq_eq_false_iff_ne];omega
    by_cases h34:k0=3∨k0=4
    ·have hnode:nodeB k0 ls ts.length=(decide (ts.length=ls.length)&&labelsB ls):=by unfold nodeB;rw [if_neg h12,if_pos h34]
     have HN:=Lib.hid hnode
     clear hnode h12
     by_cases hlt2:ts.length=ls.length
     ·have hr:=Lib.hid (show nodeB k0 ls ts.length=labelsB ls by rw [HN.out];simp [hlt2])
      have i1:((ts.length:Int) == (ls.length:Int))=true:=by rw [beq_iff_eq];omega
      have hlab:=Lib.hid (specLabels_any L lc ls wr (hl0.up' hb) hnl HZ2.out)
      clear hlt2
      rcases h34 with rfl | rfl
      all_goals
       go_wp2_with fail
       refine hlab.out.mono ?_
       rintro e w1 ⟨rfl,hb1⟩
       go_wp2
       go_ret
       exact ⟨by rw [hres.out,hr.out];rfl,hb'.trans (hb1.mono hb'.size)⟩
     ·have hr:=Lib.hid (show nodeB k0 ls ts.length=false by rw [HN.out];simp [hlt2])
      have i1:((ts.length:Int) == (ls.length:Int))=false:=by rw [beq_eq_false_iff_ne];omega
      clear hlt2
      rcases h34 with rfl | rfl
      all_goals
       go_wp2
       go_ret
       exact ⟨by rw [hres.out,hr.out];rfl,hb'⟩
    ·have e3:(k0 == 3)=false:=by rw [beq_eq_false_iff_ne];omega
     have e4:(k0 == 4)=false:=by rw [beq_eq_false_iff_ne];omega
     by_cases h5:k0=5
     ·have hnode:nodeB k0 ls ts.length=(decide (ls.length=0)&&decide (ts.length=1)):=by unfold nodeB;rw [if_neg h12,if_neg h34,if_pos h5]
      have HN:=Lib.hid hnode
      clear hnode h12 h34
      subst h5
      by_cases hl1:ls.length=0
      ·have i1:((ls.length:Int) == 0)=true:=by rw [beq_iff_eq];omega
       by_cases ht1:ts.length=1
       ·have hr:=Lib.hid (show nodeB 5 ls ts.length=true by rw [HN.out];simp [hl1,ht1])
        have i2:((ts.length:Int) == 1)=true:=by rw [beq_iff_eq];omega
        clear hl1 ht1
        go_wp2
        go_ret
        exact ⟨by rw [hres.out,hr.out];rfl,hb'⟩
       ·have hr:=Lib.hid (show nodeB 5 ls ts.length=false by rw [HN.out];simp [ht1])
        have i2:((ts.length:Int) == 1)=false:=by rw [beq_eq_false_iff_ne];omega
        clear hl1 ht1
        go_wp2
        go_ret
        exact ⟨by rw [hres.out,hr.out];rfl,hb'⟩
      ·have hr:=Lib.hid (show nodeB 5 ls ts.length=false by rw [HN.out];simp [hl1])
       have i1:((ls.length:Int) == 0)=false:=by rw [beq_eq_false_iff_ne];omega
       clear hl1
       go_wp2
       go_ret
       exact ⟨by rw [hres.out,hr.out];rfl,hb'⟩
     ·have hr:=Lib.hid (show nodeB k0 ls ts.length=false by unfold nodeB;rw [if_neg h12,if_neg h34,if_neg h5])
      have e5:(k0 == 5)=false:=by rw [beq_eq_false_iff_ne];omega
      clear h12 h34 h5
      go_wp2
      go_ret
      exact ⟨by rw [hres.out,hr.out];rfl,hb'⟩
theorem specForm_any (t:Ty):FormOne 106 t:=by
 induction t using Ty.ind with
 | h k ls ts ih=>exact specForm_of k ls ts ih
end Go.Proofs.YtfnblkcmcfofoaaGreatDoor
namespace Go.Proofs.YtfnblkcmcfofoaaGreatDoor
open Go.RowKit
def textsB (a b:List ByteArray):Bool:=decide (a=b)
theorem textsB_len (a b:List ByteArray) (h:a.length≠b.length):textsB a b=false:=by
 unfold textsB
 simp
 exact fun e=>h (by rw [e])
theorem textsB_no (a b:List ByteArray) (k:Nat) (h1:k<a.length) (h2:k<b.length) (h:a[k]≠b[k]):textsB a b=false:=by
 unfold textsB
 simp
 intro e
 subst e
 exact h rfl
theorem textsB_yes (a b:List ByteArray) (hl:a.length=b.length) (h:∀ k,(h1:k<a.length)→(h2:k<b.length)→a[k]=b[k]):textsB a b=true:=by
 unfold textsB
 simp
 exact List.ext_getElem hl h
set_option maxHeartbeats 1000000 in
theorem specTexts_any (A A':Option Addr) (c c':Nat) (ss ss':List ByteArray) (w:World) (hA:StrsAt w w.heap.size A ss) (hA':StrsAt w w.heap.size A' ss') (hn:ss.length≤maxLen):
  Calls Tryz.prog 58 #[.slice A ss.length c,.slice A' ss'.length c'] w (BoolDrew (textsB ss ss') w):=by
 unfold maxLen at hn
 by_cases hl:ss.length=ss'.length
 ·have hneq:((ss.length:Int) != (ss'.length:Int))=false:=by rw [bne_eq_false_iff_eq];omega
  have HL:=Lib.hid hl
  have hl1:ss.length≤ss'.length:=by omega
  clear hl
  go_enter Tryz.func58,Tryz.ntmps58
  go_wp2
  go_loopw [5] (fun i wr=>∃ k:Nat,k≤ss.length∧i=.int .i64 k∧(∀ j,(h1:j<ss.length)→(h2:j<ss'.length)→j<k→ss[j]=ss'[j])∧∃ n,wr=w.drewN n) (fun i _=>ss.length - (intOf i).toNat)
  case atStart=>exact ⟨0,Nat.zero_le _,rfl,fun j _ _ h=>absurd h (by omega),0,rfl⟩
  case round=>
   obtain ⟨k,hk,rfl,hall,n,rfl⟩:=hrel
   have HA:=Lib.hid hall
   clear hall hneq
   by_cases hlt:k<ss.length
   ·obtain ⟨b,off,rfl,hbl,hcell⟩:=hA k hlt
    obtain ⟨b',off',rfl,hbl',hcell'⟩:=hA' k (by omega)
    by_cases he:ss[k]=ss'[k]
    ·have hq:(ss[k].toList != ss'[k].toList)=false:=by rw [bne_eq_false_iff_eq,he]
     have hq2:(ss[k].toList == ss'[k].toList)=true:=by rw [beq_iff_eq,he]
     have HE:=Lib.hid he
     clear he
     go_wp2
     go_quiet (fail)
     go_wp2
     go_roundw
     case rel=>
      refine ⟨k+1,by omega,by go_num,fun j h1 h2 h=>?_,_,rfl⟩
      by_cases e:j=k
      ·subst e
       exact HE.out
      ·exact HA.out j h1 h2 (by omega)
     case measure=>simp [intOf];omega
    ·have hne:ss[k].toList≠ss'[k].toList:=by
      rw [ByteArray.toList_eq,ByteArray.toList_eq]
      exact fun e=>he (WideShapes.bytes_inj e)
     have hq:(ss[k].toList != ss'[k].toList)=true:=by rw [bne_iff_ne];exact hne
     have hq2:(ss[k].toList == ss'[k].toList)=false:=by rw [beq_eq_false_iff_ne];exact hne
     have hr:=Lib.hid (textsB_no ss ss' k hlt (by omega) he)
     clear he hne
     go_wp2
     go_quiet (fail)
     go_wp2
     go_ret
     exact ⟨by rw [hr.out];rfl,_,World.drewN_drewN _ _ _⟩
   ·have hr:=Lib.hid (textsB_yes ss ss' HL.out fun j h1 h2=>HA.out j h1 h2 (by omega))
    go_wp2
    go_ret
    exact ⟨by rw [hr.out];rfl,n,rfl⟩
 ·have hneq:((ss.length:Int) != (ss'.length:Int))=true:=by rw [bne_iff_ne];omega
  have hr:=Lib.hid (textsB_len ss ss' hl)
  clear hl
  go_enter Tryz.func58,Tryz.ntmps58
  go_wp2
  go_ret
  exact ⟨by rw [hr.out];rfl,0,rfl⟩
noncomputable def eqTyB (a b:Ty):Bool:=@decide (a=b) (Classical.propDecidable _)
theorem eqTyB_yes {a b:Ty} (h:a=b):eqTyB a b=true:=by unfold eqTyB;simp [h]
theorem eqTyB_no {a b:Ty} (h:a≠b):eqTyB a b=false:=by unfold eqTyB;simp [h]
theorem Ty.ext {a b:Ty} (h1:a.kind=b.kind) (h2:a.labels=b.labels) (h3:a.args=b.args):a=b:=by
 cases a;cases b
 simp only [Ty.kind,Ty.labels,Ty.args] at h1 h2 h3
 rw [h1,h2,h3]
def EqualOne (f:Nat) (t:Ty):Prop:=∀ (t':Ty) (v v':Value) (w:World),TyAt w w.heap.size v t→TyAt w w.heap.size v' t'→Calls Tryz.prog f #[v,v'] w (BoolIs (eqTyB t t') w)
set_option maxHeartbeats 4000000 in
theorem specEqual_of (t:Ty) (hall:∀ i,(h:i<t.args.length)→EqualOne 13 t.args[i]):EqualOne 13 t:=by
 intro t' v v' w hv hv'
 obtain ⟨L,lc,A,ac,rfl,hn,hz,hl,ha⟩:=hv.open
 obtain ⟨L',lc',A',ac',rfl,hn',hz',hl',ha'⟩:=hv'.open
 have HALL:=Lib.hid hall
 have HN:=Lib.hid hn
 have hm:=ha.1
 unfold maxLen at hm
 clear hz hz' hn hn' hall hv hv'
 obtain ⟨hb0,p0,q0,hs0⟩:=boxes2 w 27 27 #[.int .i64 t.kind,.slice L t.labels.length lc,.slice A t.args.length ac] #[.int .i64 t'.kind,.slice L' t'.labels.length lc',.slice A' t'.args.length ac']
 by_cases hk:t.kind=t'.kind
 ·have hkk:(t.kind != t'.kind)=false:=by rw [bne_eq_false_iff_eq];exact hk
  have HK:=Lib.hid hk
  clear hk
  go_enter Tryz.func13,Tryz.ntmps13
  go_wp2_with fail
  generalize (w.alloc (.cells #[.int .i64 t.kind,.slice L t.labels.length lc,.slice A t.args.length ac] 27)).alloc (.cells #[.int .i64 t'.kind,.slice L' t'.labels.length lc',.slice A' t'.args.length ac'] 27)=w0 at *
  have HZ:=Lib.hid hs0
  clear hs0
  refine (specTexts_any L L' lc lc' t.labels t'.labels w0 (hl.up' hb0) (hl'.up' hb0) HN.out).mono ?_
  rintro e w1 ⟨rfl,n1,rfl⟩
  have p1:=p0.drewN n1
  have q1:=q0.drewN n1
  have hb1:=hb0.trans ((drewN_below w0 n1).mono hb0.size)
  have hsz1:(w0.drewN n1).heap.size=w0.heap.size:=rfl
  have HZ1:=Lib.hid hsz1
  clear p0 q0 hsz1
  generalize w0.drewN n1=w1 at *
  have hbA:=hb1
  have ha1:=ha.up hb1
  have ha1':=ha'.up hb1
  have hpl:w.heap.size<w1.heap.size:=by have:=HZ.out;have:=HZ1.out;omega
  have hql:w.heap.size+1<w1.heap.size:=by have:=HZ.out;have:=HZ1.out;omega
  have c2:w1.cell? ⟨w.heap.size,2,none⟩=some (.slice A t.args.length ac):=p1.cell 2
  have c2':w1.cell? ⟨w.heap.size+1,2,none⟩=some (.slice A' t'.args.length ac'):=q1.cell 2
  cases htx:textsB t.labels t'.labels
  ·have hr:=Lib.hid (show eqTyB t t'=false from eqTyB_no fun e=>by
    rw [e] at htx
    simp [textsB] at htx)
   clear htx
   go_wp2
   go_ret
   exact ⟨by rw [hr.out];rfl,hb1⟩
  ·have hls:t.labels=t'.labels:=by simpa [textsB] using htx
   have HLS:=Lib.hid hls
   clear htx hls
   by_cases hlen:t.args.length=t'.args.length
   ·have hneq:((t.args.length:Int) != (t'.args.length:Int))=false:=by rw [bne_eq_false_iff_eq];omega
    have HLEN:=Lib.hid hlen
    have hlen1:t.args.length≤t'.args.length:=by omega
    clear hlen
    go_wp2
    clear c2 c2' hneq
    go_loopw [5] (fun i wr=>∃ k:Nat,k≤t.args.length∧i=.int .i64 k∧(∀ j,(h1:j<t.args.length)→(h2:j<t'.args.length)→j<k→t.args[j]=t'.args[j])∧Below w1.heap.size w1 wr) (fun i _=>t.args.length - (intOf i).toNat)
    case atStart=>exact ⟨0,Nat.zero_le _,rfl,fun j _ _ h=>absurd h (by omega),Below.refl _ _⟩
    case round=>
     obtain ⟨k,hk,rfl,hall,hb⟩:=hrel
     have HA:=Lib.hid hall
     clear hall
     have c2:wr.cell? ⟨w.heap.size,2,none⟩=some (.slice A t.args.length ac):=(p1.below hb hpl).cell 2
     have c2':wr.cell? ⟨w.heap.size+1,2,none⟩=some (.slice A' t'.args.length ac'):=(q1.below hb hql).cell 2
     by_cases hlt:k<t.args.length
     ·obtain ⟨b,off,M,mc,C,cc,rfl,hbl,q0,q1',q2,_,_,_,_,ht⟩:=(ha1.below hb).elem k hlt
      obtain ⟨b',off',M',mc',C',cc',rfl,hbl',r0,r1,r2,_,_,_,_,ht'⟩:=(ha1'.below hb).elem k (by omega)
      have hbs:=hb.size
      have hbw:b<wr.heap.size:=by omega
      have hbw':b'<wr.heap.size:=by omega
      have hpw:w.heap.size<wr.heap.size:=by omega
      have hqw:w.heap.size+1<wr.heap.size:=by omega
      have HT:=HALL.out k hlt (t'.args[k]'(by omega)) _ _ wr.drew ((ht.more hbs).up (Below.refl _ _).drew) ((ht'.more hbs).up (Below.refl _ _).drew)
      have hlt':k<t'.args.length:=by omega
      by_cases hek:t.args[k]=t'.args[k]
      ·rw [eqTyB_yes hek] at HT
       have HT':=Lib.hid HT
       have HE:=Lib.hid hek
       clear ht ht' HT hek
       go_wp2
       go_region_held3 (fun w'=>w'.cell? ⟨w.heap.size,2,none⟩=some (.slice (some ⟨b,off,none⟩) t.args.length ac)∧w'.cell? ⟨w.heap.size+1,2,none⟩=some (.slice (some ⟨b',off',none⟩) t'.args.length ac')∧w'.cell? ⟨b,off+k * 3,none⟩=some (.int .i64 t.args[k].kind)∧w'.cell? ⟨b,off+k * 3+1,none⟩=some (.slice M t.args[k].labels.length mc)∧w'.cell? ⟨b,off+k * 3+2,none⟩=some (.slice C t.args[k].args.length cc)∧w'.cell? ⟨b',off'+k * 3,none⟩=some (.int .i64 (t'.args[k]'hlt').kind)∧w'.cell? ⟨b',off'+k * 3+1,none⟩=some (.slice M' (t'.args[k]'hlt').labels.length mc')∧w'.cell? ⟨b',off'+k * 3+2,none⟩=some (.slice C' (t'.args[k]'hlt').args.length cc')∧Below wr.heap.size wr w') ((first | exact ⟨c2,c2',q0,q1',q2,r0,r1,r2,(Below.refl _ _).drew⟩ | exact ⟨y0,y1,k0,k1,k2,k0',k1',k2',k6⟩))
        (first | (go_at_call 13;refine HT'.out.mono ?_;rintro e w' ⟨rfl,hb1⟩;have k6:=(Below.refl wr.heap.size wr).drew.trans hb1;have y0:=(kC k6 c2 hpw);have y1:=(kC k6 c2' hqw);have k0:=(kC k6 q0 hbw);have k1:=(kC k6 q1' hbw);have k2:=(kC k6 q2 hbw);have k0':=(kC k6 r0 hbw');have k1':=(kC k6 r1 hbw');have k2':=(kC k6 r2 hbw')))
       go_wp2
       go_roundw
       case rel=>
        refine ⟨k+1,by omega,by go_num,fun j h1 h2 h=>?_,hb.trans (k6.mono hbs)⟩
        by_cases e:j=k
        ·subst e
         exact HE.out
        ·exact HA.out j h1 h2 (by omega)
       case measure=>simp [intOf];omega
      ·have hr:=Lib.hid (show eqTyB t t'=false from eqTyB_no fun e=>hek (by subst e;rfl))
       rw [eqTyB_no hek] at HT
       have HT':=Lib.hid HT
       clear ht ht' HT hek
       go_wp2
       go_region_held3 (fun w'=>w'.cell? ⟨w.heap.size,2,none⟩=some (.slice (some ⟨b,off,none⟩) t.args.length ac)∧w'.cell? ⟨w.heap.size+1,2,none⟩=some (.slice (some ⟨b',off',none⟩) t'.args.length ac')∧w'.cell? ⟨b,off+k * 3,none⟩=some (.int .i64 t.args[k].kind)∧w'.cell? ⟨b,off+k * 3+1,none⟩=some (.slice M t.args[k].labels.length mc)∧w'.cell? ⟨b,off+k * 3+2,none⟩=some (.slice C t.args[k].args.length cc)∧w'.cell? ⟨b',off'+k * 3,none⟩=some (.int .i64 (t'.args[k]'hlt').kind)∧w'.cell? ⟨b',off'+k * 3+1,none⟩=some (.slice M' (t'.args[k]'hlt').labels.length mc')∧w'.cell? ⟨b',off'+k * 3+2,none⟩=some (.slice C' (t'.args[k]'hlt').args.length cc')∧Below wr.heap.size wr w') ((first | exact ⟨c2,c2',q0,q1',q2,r0,r1,r2,(Below.refl _ _).drew⟩ | exact ⟨y0,y1,k0,k1,k2,k0',k1',k2',k6⟩))
        (first | (go_at_call 13;refine HT'.out.mono ?_;rintro e w' ⟨rfl,hb1⟩;have k6:=(Below.refl wr.heap.size wr).drew.trans hb1;have y0:=(kC k6 c2 hpw);have y1:=(kC k6 c2' hqw);have k0:=(kC k6 q0 hbw);have k1:=(kC k6 q1' hbw);have k2:=(kC k6 q2 hbw);have k0':=(kC k6 r0 hbw');have k1':=(kC k6 r1 hbw');have k2':=(kC k6 r2 hbw')))
       go_wp2
       go_ret
       exact ⟨by rw [hr.out];rfl,hbA.trans ((hb.trans (k6.mono hbs)).mono hbA.size)⟩
     ·have hr:=Lib.hid (show eqTyB t t'=true from eqTyB_yes (Ty.ext HK.out HLS.out (List.ext_getElem HLEN.out fun j h1 h2=>HA.out j h1 h2 (by omega))))
      go_wp2
      go_ret
      exact ⟨by rw [hr.out];rfl,hb1.trans (hb.mono hb1.size)⟩
   ·have hneq:((t.args.length:Int) != (t'.args.length:Int))=true:=by rw [bne_iff_ne];omega
    have hr:=Lib.hid (show eqTyB t t'=false from eqTyB_no fun e=>hlen (by rw [e]))
    clear hlen
    go_wp2
    go_ret
    exact ⟨by rw [hr.out];rfl,hb1⟩
 ·have hkk:(t.kind != t'.kind)=true:=by rw [bne_iff_ne];exact hk
  have hr:=Lib.hid (show eqTyB t t'=false from eqTyB_no fun e=>hk (by rw [e]))
  clear hk
  go_enter Tryz.func13,Tryz.ntmps13
  go_wp2
  go_ret
  exact ⟨by rw [hr.out];rfl,hb0⟩
theorem specEqual_any (t:Ty):EqualOne 13 t:=by
 induction t using Ty.ind with
 | h k ls ts ih=>exact specEqual_of (.mk k ls ts) ih
end Go.Proofs.YtfnblkcmcfofoaaGreatDoor
namespace Go.Proofs.YtfnblkcmcfofoaaGreatDoor
open Go.RowKit
def validB (t:Ty):Bool:=decide (sizeTy t≤30)&&decide (depthTy t≤8)&&formTy t
set_option maxHeartbeats 1000000 in
theorem specValid_any (t:Ty) (v:Value) (w:World) (hv:TyAt w w.heap.size v t) (hsz:szTy t≤1048576):
  Calls Tryz.prog 56 #[v] w (BoolIs (validB t) w):=by
 have hv0:=hv
 have hss:=size_le_sz t
 have HL:=Lib.hid (fun W h=>specLeft_any t v 30 W h (by omega) (by omega))
 have HD:=Lib.hid (fun W h=>specDepthOf_any t v W h (by omega))
 have HF:=Lib.hid (fun W h=>specForm_any t v W h hsz)
 obtain ⟨L,lc,A,ac,rfl,_,_,_,_⟩:=hv.open
 obtain ⟨hb0,p0,hs0⟩:=boxes1 w 27 #[.int .i64 t.kind,.slice L t.labels.length lc,.slice A t.args.length ac]
 have hv1:=hv0.up hb0
 have hpl:=p0.lt
 have HZ:=Lib.hid hs0
 clear hs0 hv hv0
 go_enter Tryz.func56,Tryz.ntmps56
 go_wp2_with fail
 generalize w.alloc (.cells #[.int .i64 t.kind,.slice L t.labels.length lc,.slice A t.args.length ac] 27)=w0 at *
 refine (HL.out w0 hv1).mono ?_
 rintro e w1 ⟨rfl,hb1⟩
 have hb1':=hb0.trans (hb1.mono hb0.size)
 by_cases h30:sizeTy t≤30
 ·rw [show leftOf 30 (sizeTy t)=30 - sizeTy t by unfold leftOf;rw [if_neg (by omega)]]
  have i1:(0:Int)≤30 - sizeTy t:=by omega
  have p1:=p0.below hb1 hpl
  have hv2:=hv1.up hb1
  obtain ⟨c0,c1,c2⟩:=p1.c3
  go_wp2_with fail
  refine (HD.out w1 hv2).mono ?_
  rintro e w2 ⟨rfl,hb2⟩
  have hb2':=hb1'.trans (hb2.mono hb1'.size)
  by_cases h8:depthTy t≤8
  ·have i2:(depthTy t:Int)≤8:=by omega
   have p2:=p1.below hb2 p1.lt
   have hv3:=hv2.up hb2
   obtain ⟨d0,d1,d2⟩:=p2.c3
   have hr:=Lib.hid (show validB t=formTy t by unfold validB;simp [h30,h8])
   clear c0 c1 c2 h30 h8
   go_wp2_with fail
   refine (HF.out w2 hv3).mono ?_
   rintro e w3 ⟨rfl,hb3⟩
   go_wp2
   go_ret
   exact ⟨by rw [hr.out];rfl,hb2'.trans (hb3.mono hb2'.size)⟩
  ·have i2:¬ (depthTy t:Int)≤8:=by omega
   have hr:=Lib.hid (show validB t=false by unfold validB;simp [h8])
   clear h30 h8
   go_wp2
   go_ret
   exact ⟨by rw [hr.out];rfl,hb2'⟩
 ·rw [show leftOf 30 (sizeTy t)=-1 by unfold leftOf;rw [if_pos (by omega)]]
  have hr:=Lib.hid (show validB t=false by unfold validB;simp [h30])
  clear h30
  go_wp2
  go_ret
  exact ⟨by rw [hr.out];rfl,hb1'⟩
noncomputable def uniformB (t:Ty):Bool:=validB t&&decide (t.kind=3)&&(match t.args with | []=>true | a::r=>r.all fun b=>eqTyB a b)
theorem uniform_no (t:Ty) (k:Nat) (h0:0<t.args.length) (h:k<t.args.length) (hk:1≤k) (hne:t.args[0]≠t.args[k]):uniformB t=false:=by
 unfold uniformB
 cases ha:t.args with
 | nil=>rw [ha] at h;simp at h
 | cons a r=>
  have h':k - 1<r.length:=by rw [ha] at h;simp at h;omega
  have e1:t.args[0]=a:=by simp [ha]
  have e2:t.args[k]=r[k - 1]:=by
   have:t.args[k]?=r[k - 1]?:=by
    rw [ha]
    cases k with
    | zero=>omega
    | succ k=>simp
   rw [List.getElem?_eq_getElem h,List.getElem?_eq_getElem h'] at this
   exact Option.some.inj this
  rw [e1,e2] at hne
  have:(r.all fun b=>eqTyB a b)=false:=by
   rw [List.all_eq_false]
   exact ⟨_,List.getElem_mem h',by rw [eqTyB_no hne];simp⟩
  simp [this]
theorem uniform_yes (t:Ty) (hv:validB t=true) (hk:t.kind=3) (h:∀ k,(hk:k<t.args.length)→1≤k→t.args[0]'(by omega)=t.args[k]):uniformB t=true:=by
 unfold uniformB
 rw [hv]
 cases ha:t.args with
 | nil=>simp [hk]
 | cons a r=>
  have:(r.all fun b=>eqTyB a b)=true:=by
   rw [List.all_eq_true]
   intro b hb
   obtain ⟨i,hi,rfl⟩:=List.getElem_of_mem hb
   have:=h (i+1) (by rw [ha];simpa using hi) (by omega)
   apply eqTyB_yes
   simpa [ha] using this
  simp [hk,this]
set_option maxHeartbeats 4000000 in
theorem specUniform_any (t:Ty) (v:Value) (w:World) (hv:TyAt w w.heap.size v t) (hsz:szTy t≤1048576):
  Calls Tryz.prog 140 #[v] w (BoolIs (uniformB t) w):=by
 have hv0:=hv
 have hval:=Lib.hid (fun W h=>specValid_any t v W h hsz)
 obtain ⟨L,lc,A,ac,rfl,_,_,_,ha⟩:=hv.open
 have hm:=ha.1
 unfold maxLen at hm
 obtain ⟨hb0,p0,hs0⟩:=boxes1 w 27 #[.int .i64 t.kind,.slice L t.labels.length lc,.slice A t.args.length ac]
 have hv1:=hv0.up hb0
 have ha0:=ha.up hb0
 have hpl:=p0.lt
 have HZ:=Lib.hid hs0
 clear hs0 hv hv0 ha
 go_enter Tryz.func140,Tryz.ntmps140
 go_wp2_with fail
 generalize w.alloc (.cells #[.int .i64 t.kind,.slice L t.labels.length lc,.slice A t.args.length ac] 27)=w0 at *
 refine (hval.out w0 hv1).mono ?_
 rintro e w1 ⟨rfl,hb1⟩
 have hb1':=hb0.trans (hb1.mono hb0.size)
 have p1:=p0.below hb1 hpl
 have ha1:=ha0.up hb1
 have hpl1:=p1.lt
 cases hvb:validB t
 ·have hr:=Lib.hid (show uniformB t=false by unfold uniformB;rw [hvb];rfl)
  clear hvb
  go_wp2
  go_ret
  exact ⟨by rw [hr.out];rfl,hb1'⟩
 ·have HV:=Lib.hid hvb
  clear hvb
  have c0:w1.cell? ⟨w.heap.size,0,none⟩=some (.int .i64 t.kind):=p1.cell 0
  by_cases hk:t.kind=3
  ·have hk3:(t.kind != 3)=false:=by rw [bne_eq_false_iff_eq];exact hk
   have HK:=Lib.hid hk
   clear hk
   go_wp2
   clear c0 hk3
   go_loopw [3] (fun i wr=>∃ k:Nat,1≤k∧k≤t.args.length+1∧i=.int .i64 k∧(∀ j,(h:j<t.args.length)→1≤j→j<k→t.args[0]'(by omega)=t.args[j])∧Below w1.heap.size w1 wr) (fun i _=>t.args.length - (intOf i).toNat)
   case atStart=>exact ⟨1,by omega,by omega,rfl,fun j _ h1 h2=>absurd h2 (by omega),Below.refl _ _⟩
   case round=>
    obtain ⟨k,hk1,hk,rfl,hall,hb⟩:=hrel
    have HA:=Lib.hid hall
    clear hall
    have c2:wr.cell? ⟨w.heap.size,2,none⟩=some (.slice A t.args.length ac):=(p1.below hb hpl1).cell 2
    by_cases hlt:k<t.args.length
    ·obtain ⟨b,off,M,mc,C,cc,rfl,hbl,q0,q1,q2,_,_,_,_,ht⟩:=(ha1.below hb).elem k hlt
     have h00:0<t.args.length:=by omega
     obtain ⟨b',off',M',mc',C',cc',e',hbl',r0,r1,r2,_,_,_,_,ht'⟩:=(ha1.below hb).elem 0 h00
     cases e'
     rw [Nat.zero_mul,Nat.add_zero] at r0 r1 r2
     have hbs:=hb.size
     have hbw:b<wr.heap.size:=by omega
     have hpw:w.heap.size<wr.heap.size:=by omega
     have HT:=specEqual_any t.args[0] t.args[k] _ _ wr.drew ((ht'.more hbs).up (Below.refl _ _).drew) ((ht.more hbs).up (Below.refl _ _).drew)
     by_cases hek:t.args[0]=t.args[k]
     ·rw [eqTyB_yes hek] at HT
      have HT':=Lib.hid HT
      have HE:=Lib.hid hek
      clear ht ht' HT hek
      go_wp2
      go_region_held3 (fun w'=>w'.cell? ⟨w.heap.size,2,none⟩=some (.slice (some ⟨b,off,none⟩) t.args.length ac)∧w'.cell? ⟨b,off+k * 3,none⟩=some (.int .i64 t.args[k].kind)∧w'.cell? ⟨b,off+k * 3+1,none⟩=some (.slice M t.args[k].labels.length mc)∧w'.cell? ⟨b,off+k * 3+2,none⟩=some (.slice C t.args[k].args.length cc)∧w'.cell? ⟨b,off,none⟩=some (.int .i64 t.args[0].kind)∧w'.cell? ⟨b,off+1,none⟩=some (.slice M' t.args[0].labels.length mc')∧w'.cell? ⟨b,off+2,none⟩=some (.slice C' t.args[0].args.length cc')∧Below wr.heap.size wr w') ((first | exact ⟨c2,q0,q1,q2,r0,r1,r2,(Below.refl _ _).drew⟩ | exact ⟨y0,k0,k1,k2,k0',k1',k2',k6⟩))
       (first | (go_at_call 13;refine HT'.out.mono ?_;rintro e w' ⟨rfl,hb7⟩;have k6:=(Below.refl wr.heap.size wr).drew.trans hb7;have y0:=(kC k6 c2 hpw);have k0:=(kC k6 q0 hbw);have k1:=(kC k6 q1 hbw);have k2:=(kC k6 q2 hbw);have k0':=(kC k6 r0 hbw);have k1':=(kC k6 r1 hbw);have k2':=(kC k6 r2 hbw)))
      go_wp2
      go_roundw
      case rel=>
       refine ⟨k+1,by omega,by omega,by go_num,fun j h h1 h2=>?_,hb.trans (k6.mono hbs)⟩
       by_cases e:j=k
       ·subst e
        exact HE.out
       ·exact HA.out j h h1 (by omega)
      case measure=>simp [intOf];omega
     ·have hr:=Lib.hid (uniform_no t k h00 hlt hk1 hek)
      rw [eqTyB_no hek] at HT
      have HT':=Lib.hid HT
      clear ht ht' HT hek
      go_wp2
      go_region_held3 (fun w'=>w'.cell? ⟨w.heap.size,2,none⟩=some (.slice (some ⟨b,off,none⟩) t.args.length ac)∧w'.cell? ⟨b,off+k * 3,none⟩=some (.int .i64 t.args[k].kind)∧w'.cell? ⟨b,off+k * 3+1,none⟩=some (.slice M t.args[k].labels.length mc)∧w'.cell? ⟨b,off+k * 3+2,none⟩=some (.slice C t.args[k].args.length cc)∧w'.cell? ⟨b,off,none⟩=some (.int .i64 t.args[0].kind)∧w'.cell? ⟨b,off+1,none⟩=some (.slice M' t.args[0].labels.length mc')∧w'.cell? ⟨b,off+2,none⟩=some (.slice C' t.args[0].args.length cc')∧Below wr.heap.size wr w') ((first | exact ⟨c2,q0,q1,q2,r0,r1,r2,(Below.refl _ _).drew⟩ | exact ⟨y0,k0,k1,k2,k0',k1',k2',k6⟩))
       (first | (go_at_call 13;refine HT'.out.mono ?_;rintro e w' ⟨rfl,hb7⟩;have k6:=(Below.refl wr.heap.size wr).drew.trans hb7;have y0:=(kC k6 c2 hpw);have k0:=(kC k6 q0 hbw);have k1:=(kC k6 q1 hbw);have k2:=(kC k6 q2 hbw);have k0':=(kC k6 r0 hbw);have k1':=(kC k6 r1 hbw);have k2':=(kC k6 r2 hbw)))
      go_wp2
      go_ret
      exact ⟨by rw [hr.out];rfl,hb1'.trans ((hb.trans (k6.mono hbs)).mono hb1'.size)⟩
    ·have hr:=Lib.hid (uniform_yes t HV.out HK.out fun j h h1=>HA.out j h h1 (by omega))
     go_wp2
     go_ret
     exact ⟨by rw [hr.out];rfl,hb1'.trans (hb.mono hb1'.size)⟩
  ·have hk3:(t.kind != 3)=true:=by rw [bne_iff_ne];exact hk
   have hr:=Lib.hid (show uniformB t=false by unfold uniformB;simp [hk])
   clear hk
   go_wp2
   go_ret
   exact ⟨by rw [hr.out];rfl,hb1'⟩
end Go.Proofs.YtfnblkcmcfofoaaGreatDoor
