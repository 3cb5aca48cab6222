/- Lemmas: SpecVaForm. -/
import Derived.Test.YtfnblkcmcfofoaaGreatDoorLawFoci_9
import Derived.Test.YtfnblkcmcfofoaaGreatDoorLawFoci_10

namespace Go.Proofs.YtfnblkcmcfofoaaGreatDoor
open Go.RowKit
theorem isNameB_size (s:ByteArray) (h:isNameB s=true):1≤s.size∧s.size≤4:=by
 unfold isNameB at h
 simp only [Bool.and_eq_true,decide_eq_true_eq] at h
 exact ⟨h.1.2,h.2⟩
theorem size_nil {nm:ByteArray} (h:nm.size=0):nm=⟨#[]⟩:=by
 obtain ⟨⟨l⟩⟩:=nm
 have:l=[]:=List.length_eq_zero_iff.1 h
 rw [this]
theorem toList_nil_no {nm:ByteArray} (h:nm.size≠0):(nm.toList == [])=false:=by
 rw [ByteArray.toList_eq]
 obtain ⟨⟨l⟩⟩:=nm
 cases l with
 | nil=>exact absurd rfl h
 | cons x r=>rfl
def nodeVB (k n:Int) (nm:ByteArray) (ls:List ByteArray) (m:Nat):Bool:=
 if k=1 then decide (nm.size=0)&&decide (ls.length=0)&&decide (m=0)
 else if k=2 then decide (nm.size=0)&&decide (ls.length=0)&&decide (m=0)&&decide (0≤n∧n≤1)
 else if k=3 then decide (nm.size=0)&&decide (n=0)&&decide (m=ls.length)&&labelsB ls
 else if k=4 then isNameB nm&&decide (ls.length=0)&&decide (n=0)&&decide (m=1)
 else if k=5 then decide (nm.size=0)&&decide (ls.length=0)&&decide (n=0)
 else false
theorem nodeVB_name (k n:Int) (nm:ByteArray) (ls:List ByteArray) (m:Nat) (h:nm.size≠0) (hk:k≠4):nodeVB k n nm ls m=false:=by
 unfold nodeVB
 simp [h,hk]
theorem nodeVB_labels (k n:Int) (nm:ByteArray) (ls:List ByteArray) (m:Nat) (h:ls.length≠0) (hk:k≠3):nodeVB k n nm ls m=false:=by
 unfold nodeVB
 simp only [h,hk,if_false,decide_false,Bool.and_false,Bool.false_and]
 simp
theorem nodeVB_noname (k n:Int) (nm:ByteArray) (ls:List ByteArray) (m:Nat) (h:isNameB nm=false) (hk:k=4):nodeVB k n nm ls m=false:=by
 unfold nodeVB
 subst hk
 simp [h]
theorem nodeVB_other (k n:Int) (nm:ByteArray) (ls:List ByteArray) (m:Nat) (h1:k≠1) (h2:k≠2) (h3:k≠3) (h4:k≠4) (h5:k≠5):nodeVB k n nm ls m=false:=by
 unfold nodeVB
 rw [if_neg h1,if_neg h2,if_neg h3,if_neg h4,if_neg h5]
mutual
def formVa:Va→Bool | .mk k n nm ls ts=>formVas ts&&nodeVB k n nm ls ts.length
def formVas:List Va→Bool | []=>true | t::r=>formVa t&&formVas r
end
theorem formVas_all:∀ (ts:List Va),(∀ i,(h:i<ts.length)→formVa ts[i]=true)→formVas ts=true
 | [],_=>by rw [formVas]
 | t::r,h=>by
  rw [formVas,show formVa t=true from h 0 (by simp),formVas_all r fun i hi=>h (i+1) (by simpa using hi)]
  rfl
theorem formVas_no:∀ (ts:List Va) (i:Nat) (h:i<ts.length),formVa ts[i]=false→formVas ts=false
 | [],i,h,_=>absurd h (by simp)
 | t::r,0,_,e=>by
  rw [formVas]
  have:formVa t=false:=e
  rw [this]
  rfl
 | t::r,i+1,h,e=>by
  rw [formVas,formVas_no r i (by simpa using h) (by simpa using e),Bool.and_false]
theorem formVas_at:∀ (ts:List Va),formVas ts=true→∀ i,(h:i<ts.length)→formVa ts[i]=true:=by
 intro ts h i hi
 cases hf:formVa ts[i] with
 | true=>rfl
 | false=>rw [formVas_no ts i hi hf] at h;cases h
theorem formVa_eq (t:Va):formVa t=(formVas t.args&&nodeVB t.kind t.num t.name t.labels t.args.length):=by
 cases t
 rw [formVa]
 rfl
def FormVOne (f:Nat) (t:Va):Prop:=∀ (v:Value) (w:World),VaAt w w.heap.size v t→szVa t≤1048576→Calls Tryz.prog f #[v] w (BoolIs (formVa t) w)
set_option maxHeartbeats 8000000 in
theorem specFormV_of (k0 n0:Int) (nm:ByteArray) (ls:List ByteArray) (ts:List Va) (hall:∀ i,(h:i<ts.length)→FormVOne 74 ts[i]):FormVOne 74 (.mk k0 n0 nm ls ts):=by
 intro v w hv hsz
 have hse:=szVa_eq (.mk k0 n0 nm ls ts)
 have hfe:formVa (.mk k0 n0 nm ls ts)=(formVas ts&&nodeVB k0 n0 nm ls ts.length):=by rw [formVa]
 obtain ⟨L,lc,A,ac,rfl,hnm,hn,hz,hl,ha⟩:=hv.open
 simp only [Va.kind,Va.num,Va.name,Va.labels,Va.args] at *
 have hm:=ha.1
 have hnl:ls.length<maxLen:=by unfold maxLen;omega
 unfold maxLen at hm hn
 have hsz2:szVas ts≤1048576:=by omega
 have HALL:=Lib.hid hall
 have HZ2:=Lib.hid hz
 have HFE:=Lib.hid hfe
 have HNM0:=Lib.hid hnm
 clear hall hv hz hfe hse hnm
 obtain ⟨hb0,p0,hs0⟩:=boxes1 w 41 #[.int .i64 k0,.int .i64 n0,.string nm,.slice L ls.length lc,.slice A ts.length ac]
 have ha0:=ha.up hb0
 have hl0:=hl.up' hb0
 have HZ:=Lib.hid hs0
 clear ha hl hs0
 go_enter Tryz.func74,Tryz.ntmps74
 go_wp2
 generalize w.alloc (.cells #[.int .i64 k0,.int .i64 n0,.string nm,.slice L ls.length lc,.slice A ts.length ac] 41)=w0 at *
 have hpl:=p0.lt
 go_loopw [3] (fun i wr=>∃ k:Nat,k≤ts.length∧i=.int .i64 k∧(∀ j,(hj:j<ts.length)→j<k→formVa ts[j]=true)∧Below w0.heap.size w0 wr) (fun i _=>ts.length - (intOf i).toNat)
 case atStart=>exact ⟨0,Nat.zero_le _,rfl,fun j _ h=>absurd h (by omega),Below.refl _ _⟩
 case round=>
  obtain ⟨k,hk,rfl,hall,hb⟩:=hrel
  have HA:=Lib.hid hall
  clear hall
  have p1:=p0.below hb hpl
  have c4:wr.cell? ⟨w.heap.size,4,none⟩=some (.slice A ts.length ac):=p1.cell 4
  by_cases hlt:k<ts.length
  ·obtain ⟨b,off,L1,lc1,A1,ac1,rfl,hbl,q0,q1,q2,q3,q4,ht⟩:=(ha0.below hb).elem k hlt
   have hpt:=szVa_part ts k hlt
   have HT:=HALL.out k hlt _ wr (ht.more hb.size) (by omega)
   cases hfk:formVa ts[k]
   ·rw [hfk] at HT
    have HT':=Lib.hid HT
    have hr:=Lib.hid (show formVa (.mk k0 n0 nm ls ts)=false by rw [HFE.out,formVas_no ts k hlt hfk];rfl)
    clear ht p1 HT hfk
    go_wp2_with fail
    refine HT'.out.mono ?_
    rintro e w1 ⟨rfl,hb1⟩
    go_wp2
    go_ret
    exact ⟨by rw [hr.out];rfl,hb0.trans ((hb.trans (hb1.mono hb.size)).mono hb0.size)⟩
   ·rw [hfk] at HT
    have HT':=Lib.hid HT
    have HK:=Lib.hid hfk
    clear ht p1 HT hfk
    go_wp2_with fail
    refine HT'.out.mono ?_
    rintro e w1 ⟨rfl,hb1⟩
    go_wp2
    go_roundw
    case rel=>
     refine ⟨k+1,by omega,by go_num,fun j hj h=>?_,hb.trans (hb1.mono hb.size)⟩
     by_cases e:j=k
     ·subst e
      exact HK.out
     ·exact HA.out j hj (by omega)
    case measure=>simp [intOf];omega
  ·have hke:k=ts.length:=by omega
   subst hke
   have hft:=Lib.hid (formVas_all ts fun i hi=>HA.out i hi hi)
   obtain ⟨c0,c1,c2,c3,-⟩:=p1.c5
   have hb':=hb0.trans (hb.mono hb0.size)
   have hres:Hid (formVa (.mk k0 n0 nm ls ts)=nodeVB k0 n0 nm ls ts.length):=Lib.hid (by rw [HFE.out,hft.out];rfl)
   have HNB:=specIsName_any nm wr HNM0.out
   clear p1
   have hnn:=isNameB_size nm
   by_cases hk4:k0=4
   ·subst hk4
    cases hin:isNameB nm
    ·rw [hin] at HNB
     have HNB':=Lib.hid HNB
     have hr:=Lib.hid (nodeVB_noname 4 n0 nm ls ts.length hin rfl)
     clear hin HNB hnn
     go_wp2_with fail
     refine HNB'.out.mono ?_
     rintro e w1 ⟨rfl,rfl⟩
     go_wp2
     go_ret
     exact ⟨by rw [hres.out,hr.out];rfl,hb'⟩
    ·rw [hin] at HNB
     have HNB':=Lib.hid HNB
     have hsz:=hnn hin
     have HIN:=Lib.hid hin
     clear hin HNB hnn
     by_cases hl0z:ls.length=0
     ·have i1:¬ (ls.length:Int) > 0:=by omega
      by_cases hn0:n0=0
      ·have i2:(n0 == 0)=true:=by rw [beq_iff_eq];exact hn0
       by_cases ht1:ts.length=1
       ·have i3:((ts.length:Int) == 1)=true:=by rw [beq_iff_eq];omega
        have hr:=Lib.hid (show nodeVB 4 n0 nm ls ts.length=true by unfold nodeVB;simp [HIN.out,hl0z,hn0,ht1])
        clear hl0z hn0 ht1
        go_wp2_with fail
        refine HNB'.out.mono ?_
        rintro e w1 ⟨rfl,rfl⟩
        go_wp2
        go_ret
        exact ⟨by rw [hres.out,hr.out];rfl,hb'⟩
       ·have i3:((ts.length:Int) == 1)=false:=by rw [beq_eq_false_iff_ne];omega
        have hr:=Lib.hid (show nodeVB 4 n0 nm ls ts.length=false by unfold nodeVB;simp [ht1])
        clear hl0z hn0 ht1
        go_wp2_with fail
        refine HNB'.out.mono ?_
        rintro e w1 ⟨rfl,rfl⟩
        go_wp2
        go_ret
        exact ⟨by rw [hres.out,hr.out];rfl,hb'⟩
      ·have i2:(n0 == 0)=false:=by rw [beq_eq_false_iff_ne];exact hn0
       have hr:=Lib.hid (show nodeVB 4 n0 nm ls ts.length=false by unfold nodeVB;simp [hn0])
       clear hl0z hn0
       go_wp2_with fail
       refine HNB'.out.mono ?_
       rintro e w1 ⟨rfl,rfl⟩
       go_wp2
       go_ret
       exact ⟨by rw [hres.out,hr.out];rfl,hb'⟩
     ·have i1:(ls.length:Int) > 0:=by omega
      have hr:=Lib.hid (nodeVB_labels 4 n0 nm ls ts.length hl0z (by omega))
      clear hl0z
      go_wp2_with fail
      refine HNB'.out.mono ?_
      rintro e w1 ⟨rfl,rfl⟩
      go_wp2
      go_ret
      exact ⟨by rw [hres.out,hr.out];rfl,hb'⟩
   ·have e4:(k0 == 4)=false:=by rw [beq_eq_false_iff_ne];exact hk4
    cases hin:isNameB nm
    ·rw [hin] at HNB
     have HNB':=Lib.hid HNB
     have HIN:=Lib.hid hin
     clear hin HNB hnn
     by_cases hs0:nm.size=0
     ·have hnil:nm=⟨#[]⟩:=size_nil hs0
      subst hnil
      by_cases hk3:k0=3
      ·subst hk3
       by_cases hn0:n0=0
       ·have i2:(n0 == 0)=true:=by rw [beq_iff_eq];exact hn0
        by_cases hlt2:ts.length=ls.length
        ·have i1:((ls.length:Int) == (ts.length:Int))=true:=by rw [beq_iff_eq];omega
         have hr:=Lib.hid (show nodeVB 3 n0 ⟨#[]⟩ ls ts.length=labelsB ls by unfold nodeVB;simp [hn0,hlt2,ByteArray.size])
         have hlab:=Lib.hid (specLabels_any L lc ls wr (hl0.up' hb) hnl HZ2.out)
         clear hlt2 hn0 hk4 e4
         go_wp2_with fail
         refine HNB'.out.mono ?_
         rintro e w1 ⟨rfl,rfl⟩
         go_wp2_with fail
         refine hlab.out.mono ?_
         rintro e w2 ⟨rfl,hb1⟩
         go_wp2
         go_ret
         exact ⟨by rw [hres.out,hr.out];rfl,hb'.trans (hb1.mono hb'.size)⟩
        ·have i1:((ls.length:Int) == (ts.length:Int))=false:=by rw [beq_eq_false_iff_ne];omega
         have hr:=Lib.hid (show nodeVB 3 n0 ⟨#[]⟩ ls ts.length=false by unfold nodeVB;simp [hlt2])
         clear hlt2 hn0 hk4 e4
         go_wp2_with fail
         refine HNB'.out.mono ?_
         rintro e w1 ⟨rfl,rfl⟩
         go_wp2
         go_ret
         exact ⟨by rw [hres.out,hr.out];rfl,hb'⟩
       ·have i2:(n0 == 0)=false:=by rw [beq_eq_false_iff_ne];exact hn0
        have hr:=Lib.hid (show nodeVB 3 n0 ⟨#[]⟩ ls ts.length=false by unfold nodeVB;simp [hn0])
        clear hn0 hk4 e4
        go_wp2_with fail
        refine HNB'.out.mono ?_
        rintro e w1 ⟨rfl,rfl⟩
        go_wp2
        go_ret
        exact ⟨by rw [hres.out,hr.out];rfl,hb'⟩
      ·have e3:(k0 == 3)=false:=by rw [beq_eq_false_iff_ne];exact hk3
       have e3':(k0 != 3)=true:=by rw [bne_iff_ne];exact hk3
       by_cases hl0z:ls.length=0
       ·have i1:¬ (ls.length:Int) > 0:=by omega
        by_cases hk1:k0=1
        ·subst hk1
         by_cases ht0:ts.length=0
         ·have i3:((ts.length:Int) == 0)=true:=by rw [beq_iff_eq];omega
          have hr:=Lib.hid (show nodeVB 1 n0 ⟨#[]⟩ ls ts.length=true by unfold nodeVB;simp [hl0z,ht0,ByteArray.size])
          clear hl0z ht0 hk4 hk3 e4 e3 e3'
          go_wp2_with fail
          refine HNB'.out.mono ?_
          rintro e w1 ⟨rfl,rfl⟩
          go_wp2
          go_ret
          exact ⟨by rw [hres.out,hr.out];rfl,hb'⟩
         ·have i3:((ts.length:Int) == 0)=false:=by rw [beq_eq_false_iff_ne];omega
          have hr:=Lib.hid (show nodeVB 1 n0 ⟨#[]⟩ ls ts.length=false by unfold nodeVB;simp [ht0])
          clear hl0z ht0 hk4 hk3 e4 e3 e3'
          go_wp2_with fail
          refine HNB'.out.mono ?_
          rintro e w1 ⟨rfl,rfl⟩
          go_wp2
          go_ret
          exact ⟨by rw [hres.out,hr.out];rfl,hb'⟩
        ·have e1:(k0 == 1)=false:=by rw [beq_eq_false_iff_ne];exact hk1
         by_cases hk2:k0=2
         ·subst hk2
          by_cases ht0:ts.length=0
          ·have i3:((ts.length:Int) == 0)=true:=by rw [beq_iff_eq];omega
           by_cases hn01:0≤n0∧n0≤1
           ·have hr:=Lib.hid (show nodeVB 2 n0 ⟨#[]⟩ ls ts.length=true by unfold nodeVB;simp [hl0z,ht0,hn01,ByteArray.size])
            have hin:=Lib.hid (fun W=>l1In_yes n0 0 1 W hn01.1 hn01.2)
            clear hl0z ht0 hk4 hk3 e4 e3 e3' hk1 e1 hn01
            go_wp2_with fail
            refine HNB'.out.mono ?_
            rintro e w1 ⟨rfl,rfl⟩
            go_wp2_with fail
            refine (hin.out _).mono ?_
            rintro e w2 ⟨rfl,rfl⟩
            go_wp2
            go_ret
            exact ⟨by rw [hres.out,hr.out];rfl,hb'⟩
           ·have hr:=Lib.hid (show nodeVB 2 n0 ⟨#[]⟩ ls ts.length=false by unfold nodeVB;simp;omega)
            have hin:=Lib.hid (fun W=>l1In_no n0 0 1 W (by omega))
            clear hl0z ht0 hk4 hk3 e4 e3 e3' hk1 e1 hn01
            go_wp2_with fail
            refine HNB'.out.mono ?_
            rintro e w1 ⟨rfl,rfl⟩
            go_wp2_with fail
            refine (hin.out _).mono ?_
            rintro e w2 ⟨rfl,rfl⟩
            go_wp2
            go_ret
            exact ⟨by rw [hres.out,hr.out];rfl,hb'⟩
          ·have i3:((ts.length:Int) == 0)=false:=by rw [beq_eq_false_iff_ne];omega
           have hr:=Lib.hid (show nodeVB 2 n0 ⟨#[]⟩ ls ts.length=false by unfold nodeVB;simp [ht0])
           clear hl0z ht0 hk4 hk3 e4 e3 e3' hk1 e1
           go_wp2_with fail
           refine HNB'.out.mono ?_
           rintro e w1 ⟨rfl,rfl⟩
           go_wp2
           go_ret
           exact ⟨by rw [hres.out,hr.out];rfl,hb'⟩
         ·have e2:(k0 == 2)=false:=by rw [beq_eq_false_iff_ne];exact hk2
          by_cases hk5:k0=5
          ·subst hk5
           by_cases hn0:n0=0
           ·have i2:(n0 == 0)=true:=by rw [beq_iff_eq];exact hn0
            have hr:=Lib.hid (show nodeVB 5 n0 ⟨#[]⟩ ls ts.length=true by unfold nodeVB;simp [hl0z,hn0,ByteArray.size])
            clear hl0z hn0 hk4 hk3 e4 e3 e3' hk1 e1 hk2 e2
            go_wp2_with fail
            refine HNB'.out.mono ?_
            rintro e w1 ⟨rfl,rfl⟩
            go_wp2
            go_ret
            exact ⟨by rw [hres.out,hr.out];rfl,hb'⟩
           ·have i2:(n0 == 0)=false:=by rw [beq_eq_false_iff_ne];exact hn0
            have hr:=Lib.hid (show nodeVB 5 n0 ⟨#[]⟩ ls ts.length=false by unfold nodeVB;simp [hn0])
            clear hl0z hn0 hk4 hk3 e4 e3 e3' hk1 e1 hk2 e2
            go_wp2_with fail
            refine HNB'.out.mono ?_
            rintro e w1 ⟨rfl,rfl⟩
            go_wp2
            go_ret
            exact ⟨by rw [hres.out,hr.out];rfl,hb'⟩
          ·have e5:(k0 == 5)=false:=by rw [beq_eq_false_iff_ne];exact hk5
           have hr:=Lib.hid (nodeVB_other k0 n0 ⟨#[]⟩ ls ts.length hk1 hk2 hk3 hk4 hk5)
           clear hl0z hk4 hk3 hk1 hk2 hk5
           go_wp2_with fail
           refine HNB'.out.mono ?_
           rintro e w1 ⟨rfl,rfl⟩
           go_wp2
           go_ret
           exact ⟨by rw [hres.out,hr.out];rfl,hb'⟩
       ·have i1:(ls.length:Int) > 0:=by omega
        have hr:=Lib.hid (nodeVB_labels k0 n0 ⟨#[]⟩ ls ts.length hl0z hk3)
        clear hl0z hk3 hk4
        go_wp2_with fail
        refine HNB'.out.mono ?_
        rintro e w1 ⟨rfl,rfl⟩
        go_wp2
        go_ret
        exact ⟨by rw [hres.out,hr.out];rfl,hb'⟩
     ·have hq:(nm.toList == [])=false:=toList_nil_no hs0
      have hr:=Lib.hid (nodeVB_name k0 n0 nm ls ts.length hs0 hk4)
      clear hs0 hk4
      go_wp2_with fail
      refine HNB'.out.mono ?_
      rintro e w1 ⟨rfl,rfl⟩
      go_wp2
      go_ret
      exact ⟨by rw [hres.out,hr.out];rfl,hb'⟩
    ·rw [hin] at HNB
     have HNB':=Lib.hid HNB
     have hsz:=hnn hin
     have hr:=Lib.hid (nodeVB_name k0 n0 nm ls ts.length (by omega) hk4)
     clear hin HNB hnn hk4
     go_wp2_with fail
     refine HNB'.out.mono ?_
     rintro e w1 ⟨rfl,rfl⟩
     go_wp2
     go_ret
     exact ⟨by rw [hres.out,hr.out];rfl,hb'⟩
theorem specFormV_any (t:Va):FormVOne 74 t:=by
 induction t using Va.ind with
 | h k n nm ls ts ih=>exact specFormV_of k n nm ls ts ih
def valueB (t:Va):Bool:=decide (sizeVa t≤300)&&formVa t
set_option maxHeartbeats 1000000 in
theorem specIsValue_any (t:Va) (v:Value) (w:World) (hv:VaAt w w.heap.size v t) (hsz:szVa t≤1048576):
  Calls Tryz.prog 31 #[v] w (BoolIs (valueB t) w):=by
 have hv0:=hv
 have HL:=Lib.hid (fun W h=>specLeftV_any t v 300 W h (by omega) (by omega))
 have HF:=Lib.hid (fun W h=>specFormV_any t v W h hsz)
 obtain ⟨L,lc,A,ac,rfl,_,_,_,_,_⟩:=hv.open
 obtain ⟨hb0,p0,hs0⟩:=boxes1 w 41 #[.int .i64 t.kind,.int .i64 t.num,.string t.name,.slice L t.labels.length lc,.slice A t.args.length ac]
 have hv1:=hv0.up hb0
 have hpl:=p0.lt
 have HZ:=Lib.hid hs0
 clear hs0 hv hv0
 go_enter Tryz.func31,Tryz.ntmps31
 go_wp2_with fail
 generalize w.alloc (.cells #[.int .i64 t.kind,.int .i64 t.num,.string t.name,.slice L t.labels.length lc,.slice A t.args.length ac] 41)=w0 at *
 refine (HL.out w0 hv1).mono ?_
 rintro e w1 ⟨rfl,hb1⟩
 have hb1':=hb0.trans (hb1.mono hb0.size)
 by_cases h30:sizeVa t≤300
 ·rw [show leftOf 300 (sizeVa t)=300 - sizeVa t by unfold leftOf;rw [if_neg (by omega)]]
  have i1:(0:Int)≤300 - sizeVa t:=by omega
  have p1:=p0.below hb1 hpl
  have hv2:=hv1.up hb1
  obtain ⟨c0,c1,c2,c3,c4⟩:=p1.c5
  have hr:=Lib.hid (show valueB t=formVa t by unfold valueB;simp [h30])
  clear h30
  go_wp2_with fail
  refine (HF.out w1 hv2).mono ?_
  rintro e w2 ⟨rfl,hb2⟩
  go_wp2
  go_ret
  exact ⟨by rw [hr.out];rfl,hb1'.trans (hb2.mono hb1'.size)⟩
 ·rw [show leftOf 300 (sizeVa t)=-1 by unfold leftOf;rw [if_pos (by omega)]]
  have hr:=Lib.hid (show valueB t=false by unfold valueB;simp [h30])
  clear h30
  go_wp2
  go_ret
  exact ⟨by rw [hr.out];rfl,hb1'⟩
end Go.Proofs.YtfnblkcmcfofoaaGreatDoor
