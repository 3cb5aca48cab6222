/- Lemmas: SpecOtForm, SpecPart. -/
import Derived.Test.YtfnblkcmcfofoaaGreatDoorLawFoci_14
import Derived.Test.YtfnblkcmcfofoaaGreatDoorLawFoci_10
import Derived.Deep.QuietTactic
import Derived.BigQuiet
import Derived.Test.YtfnblkcmcfofoaaGreatDoorLawFoci_6
import Derived.Test.YtfnblkcmcfofoaaGreatDoorLawFoci_13

namespace Go.Proofs.YtfnblkcmcfofoaaGreatDoor
section
open Go.RowKit
theorem drewC4 {w:World} {p q r s:Addr} {a b c d:Value} (n:Nat) (h0:w.cell? p=some a) (h1:w.cell? q=some b) (h2:w.cell? r=some c) (h3:w.cell? s=some d):(w.drewN n).cell? p=some a∧(w.drewN n).cell? q=some b∧(w.drewN n).cell? r=some c∧(w.drewN n).cell? s=some d∧Below w.heap.size w (w.drewN n):=
 ⟨h0,h1,h2,h3,drewN_below w n⟩
theorem osize_nil {nm:ByteArray} (h:nm.size=0):nm=⟨#[]⟩:=by
 obtain ⟨⟨l⟩⟩:=nm
 have:l=[]:=List.length_eq_zero_iff.1 h
 rw [this]
theorem otoList_nil_no {nm:ByteArray} (h:nm.size≠0):(nm.toList == [])=false:=by
 rw [ByteArray.toList_eq]
 obtain ⟨⟨l⟩⟩:=nm
 cases l with
 | nil=>exact absurd rfl h
 | cons x r=>rfl
theorem isNameB_pos (s:ByteArray) (h:isNameB s=true):s.size≠0:=by
 unfold isNameB at h
 simp only [Bool.and_eq_true,decide_eq_true_eq] at h
 omega
def arityI (k:Int):Int:=if k=11 then 1 else if k=12∨k=13 then 2 else if 1≤k∧k≤10 then 0 else -1
def numOB (k n:Int):Bool:=if k=6 then decide (0≤n∧n≤1000) else if k=7 then decide (-1000≤n∧n≤1000) else decide (n=0)
def nodeOB (k n:Int) (nm:ByteArray) (m:Nat):Bool:=
 (if k=2∨k=3∨k=10 then isNameB nm else decide (nm.size=0))&&decide ((m:Int)=arityI k)&&numOB k n
mutual
def formOt:Ot→Bool | .mk k n nm ts=>formOts ts&&nodeOB k n nm ts.length
def formOts:List Ot→Bool | []=>true | t::r=>formOt t&&formOts r
end
theorem formOts_all:∀ (ts:List Ot),(∀ i,(h:i<ts.length)→formOt ts[i]=true)→formOts ts=true
 | [],_=>by rw [formOts]
 | t::r,h=>by
  rw [formOts,show formOt t=true from h 0 (by simp),formOts_all r fun i hi=>h (i+1) (by simpa using hi)]
  rfl
theorem formOts_no:∀ (ts:List Ot) (i:Nat) (h:i<ts.length),formOt ts[i]=false→formOts ts=false
 | [],i,h,_=>absurd h (by simp)
 | t::r,0,_,e=>by
  rw [formOts]
  have:formOt t=false:=e
  rw [this]
  rfl
 | t::r,i+1,h,e=>by
  rw [formOts,formOts_no r i (by simpa using h) (by simpa using e),Bool.and_false]
theorem formOts_at:∀ (ts:List Ot),formOts ts=true→∀ i,(h:i<ts.length)→formOt ts[i]=true:=by
 intro ts h i hi
 cases hf:formOt ts[i] with
 | true=>rfl
 | false=>rw [formOts_no ts i hi hf] at h;cases h
theorem formOt_eq (t:Ot):formOt t=(formOts t.args&&nodeOB t.kind t.num t.name t.args.length):=by
 cases t
 rw [formOt]
 rfl
theorem specArity_any (k:Int) (w:World):Calls Tryz.prog 116 #[.int .i64 k] w fun e w'=>e=.returned (.int .i64 (arityI k))∧w=w':=by
 by_cases h1:k=11
 ·subst h1
  go_enter Tryz.func116,Tryz.ntmps116
  go_wp2
  go_ret
  exact ⟨rfl,rfl⟩
 ·have i1:(k == 11)=false:=by rw [beq_eq_false_iff_ne];exact h1
  by_cases h2:k=12
  ·subst h2
   go_enter Tryz.func116,Tryz.ntmps116
   go_wp2
   go_ret
   exact ⟨rfl,rfl⟩
  ·have i2:(k == 12)=false:=by rw [beq_eq_false_iff_ne];exact h2
   by_cases h3:k=13
   ·subst h3
    go_enter Tryz.func116,Tryz.ntmps116
    go_wp2
    go_ret
    exact ⟨rfl,rfl⟩
   ·have i3:(k == 13)=false:=by rw [beq_eq_false_iff_ne];exact h3
    by_cases h4:1≤k∧k≤10
    ·have hr:=Lib.hid (show arityI k=0 by unfold arityI;rw [if_neg h1,if_neg (by omega),if_pos h4])
     have HI:=Lib.hid (fun W=>l1In_yes k 1 10 W h4.1 h4.2)
     clear h1 h2 h3 h4
     go_enter Tryz.func116,Tryz.ntmps116
     go_wp2_with fail
     refine (HI.out _).mono ?_
     rintro e w1 ⟨rfl,rfl⟩
     go_wp2
     go_ret
     exact ⟨by rw [hr.out];rfl,rfl⟩
    ·have hr:=Lib.hid (show arityI k=-1 by unfold arityI;rw [if_neg h1,if_neg (by omega),if_neg h4])
     have HI:=Lib.hid (fun W=>l1In_no k 1 10 W (by omega))
     clear h1 h2 h3 h4
     go_enter Tryz.func116,Tryz.ntmps116
     go_wp2_with fail
     refine (HI.out _).mono ?_
     rintro e w1 ⟨rfl,rfl⟩
     go_wp2
     go_ret
     exact ⟨by rw [hr.out];rfl,rfl⟩
def FormOOne (f:Nat) (t:Ot):Prop:=∀ (v:Value) (w:World),OtAt w w.heap.size v t→szOt t≤1048576→Calls Tryz.prog f #[v] w (BoolIs (formOt t) w)
set_option maxHeartbeats 8000000 in
theorem specFormO_of (k0 n0:Int) (nm:ByteArray) (ts:List Ot) (hall:∀ i,(h:i<ts.length)→FormOOne 64 ts[i]):FormOOne 64 (.mk k0 n0 nm ts):=by
 intro v w hv hsz
 have hse:=szOt_eq (.mk k0 n0 nm ts)
 have hfe:formOt (.mk k0 n0 nm ts)=(formOts ts&&nodeOB k0 n0 nm ts.length):=by rw [formOt]
 obtain ⟨A,ac,rfl,hnm,ha⟩:=hv.open
 simp only [Ot.kind,Ot.num,Ot.name,Ot.args] at *
 have hm:=ha.1
 unfold maxLen at hm
 have hsz2:szOts ts≤1048576:=by omega
 have HALL:=Lib.hid hall
 have HFE:=Lib.hid hfe
 have HNM0:=Lib.hid hnm
 clear hall hv hfe hse hnm
 obtain ⟨hb0,p0,hs0⟩:=boxes1 w 30 #[.int .i64 k0,.string nm,.int .i64 n0,.slice A ts.length ac]
 have ha0:=ha.up hb0
 have HZ:=Lib.hid hs0
 clear ha hs0
 go_enter Tryz.func64,Tryz.ntmps64
 go_wp2
 generalize w.alloc (.cells #[.int .i64 k0,.string nm,.int .i64 n0,.slice A ts.length ac] 30)=w0 at *
 have hpl:=p0.lt
 go_loopw [3] (fun i wr=>∃ k:Nat,k≤ts.length∧i=.int .i64 k∧(∀ j,(hj:j<ts.length)→j<k→formOt ts[j]=true)∧Below w0.heap.size w0 wr) (fun i _=>ts.length - (intOf i).toNat)
 case atStart=>exact ⟨0,Nat.zero_le _,rfl,fun j _ h=>absurd h (by omega),Below.refl _ _⟩
 case round=>
  obtain ⟨k,hk,rfl,hall,hb⟩:=hrel
  have HA:=Lib.hid hall
  clear hall
  have p1:=p0.below hb hpl
  have c4:wr.cell? ⟨w.heap.size,3,none⟩=some (.slice A ts.length ac):=p1.cell 3
  by_cases hlt:k<ts.length
  ·obtain ⟨b,off,A1,ac1,rfl,hbl,q0,q1,q2,q3,ht⟩:=(ha0.below hb).elem k hlt
   have hpt:=szOt_part ts k hlt
   have HT:=HALL.out k hlt _ wr (ht.more hb.size) (by omega)
   cases hfk:formOt ts[k]
   ·rw [hfk] at HT
    have HT':=Lib.hid HT
    have hr:=Lib.hid (show formOt (.mk k0 n0 nm ts)=false by rw [HFE.out,formOts_no ts k hlt hfk];rfl)
    clear ht p1 HT hfk
    go_wp2_with fail
    refine HT'.out.mono ?_
    rintro e w1 ⟨rfl,hb1⟩
    go_wp2
    go_ret
    exact ⟨by rw [hr.out];rfl,hb0.trans ((hb.trans (hb1.mono hb.size)).mono hb0.size)⟩
   ·rw [hfk] at HT
    have HT':=Lib.hid HT
    have HK:=Lib.hid hfk
    clear ht p1 HT hfk
    go_wp2_with fail
    refine HT'.out.mono ?_
    rintro e w1 ⟨rfl,hb1⟩
    go_wp2
    go_roundw
    case rel=>
     refine ⟨k+1,by omega,by go_num,fun j hj h=>?_,hb.trans (hb1.mono hb.size)⟩
     by_cases e:j=k
     ·subst e
      exact HK.out
     ·exact HA.out j hj (by omega)
    case measure=>simp [intOf];omega
  ·have hke:k=ts.length:=by omega
   subst hke
   have hft:=Lib.hid (formOts_all ts fun i hi=>HA.out i hi hi)
   obtain ⟨c0,c1,c2,-⟩:=p1.c4
   have hb':=hb0.trans (hb.mono hb0.size)
   have hres:Hid (formOt (.mk k0 n0 nm ts)=nodeOB k0 n0 nm ts.length):=Lib.hid (by rw [HFE.out,hft.out];rfl)
   have HNB:∀ W,Calls Tryz.prog 115 #[.string nm] W fun e w'=>e=.returned (.bool (isNameB nm))∧w'=W:=fun W=>(specIsName_any nm W HNM0.out).mono fun _ _ h=>⟨h.1,h.2.symm⟩
   have HAR:Hid (∀ W,Calls Tryz.prog 116 #[.int .i64 k0] W fun e w'=>e=.returned (.int .i64 (arityI k0))∧w'=W):=Lib.hid (fun W=>(specArity_any k0 W).mono fun _ _ h=>⟨h.1,h.2.symm⟩)
   have hz:=isNameB_pos nm
   have hpl2:w.heap.size<wr.heap.size:=p1.lt
   clear p1
   by_cases hk2:k0=2
   ·subst hk2
    cases hin:isNameB nm
    ·rw [hin] at HNB
     have HNB':=Lib.hid HNB
     have hr:=Lib.hid (show nodeOB 2 n0 nm ts.length=false by unfold nodeOB;simp [hin])
     clear hin HNB hz
     go_wp2
     go_quiet ((first | (go_at_call 115;exact Calls.quiet_of_same (HNB'.out _)) | (go_at_call 116;exact Calls.quiet_of_same (HAR.out _))))
     obtain ⟨x0,x1,x2,x3,xb⟩:=drewC4 nq c0 c1 c2 c4
     clear c0 c1 c2 c4
     generalize wr.drewN nq=wx at *
     go_wp2
     go_ret
     exact ⟨by rw [hres.out,hr.out];rfl,hb'.trans (xb.mono hb'.size)⟩
    ·rw [hin] at HNB
     have HNB':=Lib.hid HNB
     have HIN:=Lib.hid hin
     rw [show arityI 2=0 from rfl] at HAR
     clear hin HNB hz
     by_cases hm1:(ts.length:Int)=0
     ·have i3:((ts.length:Int) != 0)=false:=by rw [bne_eq_false_iff_eq];exact hm1
      by_cases hn0:n0=0
      ·have i4:(n0 == 0)=true:=by rw [beq_iff_eq];exact hn0
       have hr:=Lib.hid (show nodeOB 2 n0 nm ts.length=true by unfold nodeOB numOB;simp [HIN.out,hn0,hm1,arityI])
       clear  hm1 hn0
       go_wp2
       go_quiet ((first | (go_at_call 115;exact Calls.quiet_of_same (HNB'.out _)) | (go_at_call 116;exact Calls.quiet_of_same (HAR.out _))))
       obtain ⟨x0,x1,x2,x3,xb⟩:=drewC4 nq c0 c1 c2 c4
       clear c0 c1 c2 c4
       generalize wr.drewN nq=wx at *
       go_wp2
       go_ret
       exact ⟨by rw [hres.out,hr.out];rfl,hb'.trans (xb.mono hb'.size)⟩
      ·have i4:(n0 == 0)=false:=by rw [beq_eq_false_iff_ne];exact hn0
       have hr:=Lib.hid (show nodeOB 2 n0 nm ts.length=false by unfold nodeOB numOB;simp [hn0])
       clear  hm1 hn0
       go_wp2
       go_quiet ((first | (go_at_call 115;exact Calls.quiet_of_same (HNB'.out _)) | (go_at_call 116;exact Calls.quiet_of_same (HAR.out _))))
       obtain ⟨x0,x1,x2,x3,xb⟩:=drewC4 nq c0 c1 c2 c4
       clear c0 c1 c2 c4
       generalize wr.drewN nq=wx at *
       go_wp2
       go_ret
       exact ⟨by rw [hres.out,hr.out];rfl,hb'.trans (xb.mono hb'.size)⟩
     ·have i3:((ts.length:Int) != 0)=true:=by rw [bne_iff_ne];exact hm1
      have hr:=Lib.hid (show nodeOB 2 n0 nm ts.length=false by unfold nodeOB;rw [show decide ((ts.length:Int)=arityI 2)=false from decide_eq_false (by first | exact hm1 | (simp [arityI];omega)),Bool.and_false,Bool.false_and])
      clear  hm1
      go_wp2
      go_quiet ((first | (go_at_call 115;exact Calls.quiet_of_same (HNB'.out _)) | (go_at_call 116;exact Calls.quiet_of_same (HAR.out _))))
      obtain ⟨x0,x1,x2,x3,xb⟩:=drewC4 nq c0 c1 c2 c4
      clear c0 c1 c2 c4
      generalize wr.drewN nq=wx at *
      go_wp2
      go_ret
      exact ⟨by rw [hres.out,hr.out];rfl,hb'.trans (xb.mono hb'.size)⟩
   ·have e2:(k0 == 2)=false:=by rw [beq_eq_false_iff_ne];exact hk2
    by_cases hk3:k0=3
    ·subst hk3
     cases hin:isNameB nm
     ·rw [hin] at HNB
      have HNB':=Lib.hid HNB
      have hr:=Lib.hid (show nodeOB 3 n0 nm ts.length=false by unfold nodeOB;simp [hin])
      clear hin HNB hz
      go_wp2
      go_quiet ((first | (go_at_call 115;exact Calls.quiet_of_same (HNB'.out _)) | (go_at_call 116;exact Calls.quiet_of_same (HAR.out _))))
      obtain ⟨x0,x1,x2,x3,xb⟩:=drewC4 nq c0 c1 c2 c4
      clear c0 c1 c2 c4
      generalize wr.drewN nq=wx at *
      go_wp2
      go_ret
      exact ⟨by rw [hres.out,hr.out];rfl,hb'.trans (xb.mono hb'.size)⟩
     ·rw [hin] at HNB
      have HNB':=Lib.hid HNB
      have HIN:=Lib.hid hin
      rw [show arityI 3=0 from rfl] at HAR
      clear hin HNB hz
      by_cases hm1:(ts.length:Int)=0
      ·have i3:((ts.length:Int) != 0)=false:=by rw [bne_eq_false_iff_eq];exact hm1
       by_cases hn0:n0=0
       ·have i4:(n0 == 0)=true:=by rw [beq_iff_eq];exact hn0
        have hr:=Lib.hid (show nodeOB 3 n0 nm ts.length=true by unfold nodeOB numOB;simp [HIN.out,hn0,hm1,arityI])
        clear  hm1 hn0
        go_wp2
        go_quiet ((first | (go_at_call 115;exact Calls.quiet_of_same (HNB'.out _)) | (go_at_call 116;exact Calls.quiet_of_same (HAR.out _))))
        obtain ⟨x0,x1,x2,x3,xb⟩:=drewC4 nq c0 c1 c2 c4
        clear c0 c1 c2 c4
        generalize wr.drewN nq=wx at *
        go_wp2
        go_ret
        exact ⟨by rw [hres.out,hr.out];rfl,hb'.trans (xb.mono hb'.size)⟩
       ·have i4:(n0 == 0)=false:=by rw [beq_eq_false_iff_ne];exact hn0
        have hr:=Lib.hid (show nodeOB 3 n0 nm ts.length=false by unfold nodeOB numOB;simp [hn0])
        clear  hm1 hn0
        go_wp2
        go_quiet ((first | (go_at_call 115;exact Calls.quiet_of_same (HNB'.out _)) | (go_at_call 116;exact Calls.quiet_of_same (HAR.out _))))
        obtain ⟨x0,x1,x2,x3,xb⟩:=drewC4 nq c0 c1 c2 c4
        clear c0 c1 c2 c4
        generalize wr.drewN nq=wx at *
        go_wp2
        go_ret
        exact ⟨by rw [hres.out,hr.out];rfl,hb'.trans (xb.mono hb'.size)⟩
      ·have i3:((ts.length:Int) != 0)=true:=by rw [bne_iff_ne];exact hm1
       have hr:=Lib.hid (show nodeOB 3 n0 nm ts.length=false by unfold nodeOB;rw [show decide ((ts.length:Int)=arityI 3)=false from decide_eq_false (by first | exact hm1 | (simp [arityI];omega)),Bool.and_false,Bool.false_and])
       clear  hm1
       go_wp2
       go_quiet ((first | (go_at_call 115;exact Calls.quiet_of_same (HNB'.out _)) | (go_at_call 116;exact Calls.quiet_of_same (HAR.out _))))
       obtain ⟨x0,x1,x2,x3,xb⟩:=drewC4 nq c0 c1 c2 c4
       clear c0 c1 c2 c4
       generalize wr.drewN nq=wx at *
       go_wp2
       go_ret
       exact ⟨by rw [hres.out,hr.out];rfl,hb'.trans (xb.mono hb'.size)⟩
    ·have e3:(k0 == 3)=false:=by rw [beq_eq_false_iff_ne];exact hk3
     by_cases hk10:k0=10
     ·subst hk10
      cases hin:isNameB nm
      ·rw [hin] at HNB
       have HNB':=Lib.hid HNB
       have hr:=Lib.hid (show nodeOB 10 n0 nm ts.length=false by unfold nodeOB;simp [hin])
       clear hin HNB hz
       go_wp2
       go_quiet ((first | (go_at_call 115;exact Calls.quiet_of_same (HNB'.out _)) | (go_at_call 116;exact Calls.quiet_of_same (HAR.out _))))
       obtain ⟨x0,x1,x2,x3,xb⟩:=drewC4 nq c0 c1 c2 c4
       clear c0 c1 c2 c4
       generalize wr.drewN nq=wx at *
       go_wp2
       go_ret
       exact ⟨by rw [hres.out,hr.out];rfl,hb'.trans (xb.mono hb'.size)⟩
      ·rw [hin] at HNB
       have HNB':=Lib.hid HNB
       have HIN:=Lib.hid hin
       rw [show arityI 10=0 from rfl] at HAR
       clear hin HNB hz
       by_cases hm1:(ts.length:Int)=0
       ·have i3:((ts.length:Int) != 0)=false:=by rw [bne_eq_false_iff_eq];exact hm1
        by_cases hn0:n0=0
        ·have i4:(n0 == 0)=true:=by rw [beq_iff_eq];exact hn0
         have hr:=Lib.hid (show nodeOB 10 n0 nm ts.length=true by unfold nodeOB numOB;simp [HIN.out,hn0,hm1,arityI])
         clear  hm1 hn0
         go_wp2
         go_quiet ((first | (go_at_call 115;exact Calls.quiet_of_same (HNB'.out _)) | (go_at_call 116;exact Calls.quiet_of_same (HAR.out _))))
         obtain ⟨x0,x1,x2,x3,xb⟩:=drewC4 nq c0 c1 c2 c4
         clear c0 c1 c2 c4
         generalize wr.drewN nq=wx at *
         go_wp2
         go_ret
         exact ⟨by rw [hres.out,hr.out];rfl,hb'.trans (xb.mono hb'.size)⟩
        ·have i4:(n0 == 0)=false:=by rw [beq_eq_false_iff_ne];exact hn0
         have hr:=Lib.hid (show nodeOB 10 n0 nm ts.length=false by unfold nodeOB numOB;simp [hn0])
         clear  hm1 hn0
         go_wp2
         go_quiet ((first | (go_at_call 115;exact Calls.quiet_of_same (HNB'.out _)) | (go_at_call 116;exact Calls.quiet_of_same (HAR.out _))))
         obtain ⟨x0,x1,x2,x3,xb⟩:=drewC4 nq c0 c1 c2 c4
         clear c0 c1 c2 c4
         generalize wr.drewN nq=wx at *
         go_wp2
         go_ret
         exact ⟨by rw [hres.out,hr.out];rfl,hb'.trans (xb.mono hb'.size)⟩
       ·have i3:((ts.length:Int) != 0)=true:=by rw [bne_iff_ne];exact hm1
        have hr:=Lib.hid (show nodeOB 10 n0 nm ts.length=false by unfold nodeOB;rw [show decide ((ts.length:Int)=arityI 10)=false from decide_eq_false (by first | exact hm1 | (simp [arityI];omega)),Bool.and_false,Bool.false_and])
        clear  hm1
        go_wp2
        go_quiet ((first | (go_at_call 115;exact Calls.quiet_of_same (HNB'.out _)) | (go_at_call 116;exact Calls.quiet_of_same (HAR.out _))))
        obtain ⟨x0,x1,x2,x3,xb⟩:=drewC4 nq c0 c1 c2 c4
        clear c0 c1 c2 c4
        generalize wr.drewN nq=wx at *
        go_wp2
        go_ret
        exact ⟨by rw [hres.out,hr.out];rfl,hb'.trans (xb.mono hb'.size)⟩
     ·have e10:(k0 == 10)=false:=by rw [beq_eq_false_iff_ne];exact hk10
      by_cases hk6:k0=6
      ·subst hk6
       cases hin:isNameB nm
       ·rw [hin] at HNB
        have HNB':=Lib.hid HNB
        clear hin HNB hz
        rw [show arityI 6=0 from rfl] at HAR
        by_cases hs0:nm.size=0
        ·have hnil:nm=⟨#[]⟩:=osize_nil hs0
         subst hnil
         by_cases hm1:(ts.length:Int)=0
         ·have i3:((ts.length:Int) != 0)=false:=by rw [bne_eq_false_iff_eq];exact hm1
          by_cases hn0:0≤n0∧n0≤1000
          ·have HIN:=Lib.hid (fun W=>l1In_yes n0 (0) (1000) W hn0.1 hn0.2)
           have hr:=Lib.hid (show nodeOB 6 n0 ⟨#[]⟩ ts.length=true by unfold nodeOB numOB;simp [hn0,hm1,arityI,ByteArray.size])
           clear hm1 hn0 hs0
           go_wp2
           go_quiet ((first | (go_at_call 115;exact Calls.quiet_of_same (HNB'.out _)) | (go_at_call 116;exact Calls.quiet_of_same (HAR.out _))))
           obtain ⟨x0,x1,x2,x3,xb⟩:=drewC4 nq c0 c1 c2 c4
           clear c0 c1 c2 c4
           generalize wr.drewN nq=wx at *
           go_wp2_with fail
           refine (HIN.out _).mono ?_
           rintro e w3 ⟨rfl,rfl⟩
           go_wp2
           go_ret
           exact ⟨by rw [hres.out,hr.out];rfl,hb'.trans (xb.mono hb'.size)⟩
          ·have HIN:=Lib.hid (fun W=>l1In_no n0 (0) (1000) W (by omega))
           have hr:=Lib.hid (show nodeOB 6 n0 ⟨#[]⟩ ts.length=false by unfold nodeOB numOB;rw [show decide (0≤n0∧n0≤1000)=false from decide_eq_false hn0];simp)
           clear hm1 hn0 hs0
           go_wp2
           go_quiet ((first | (go_at_call 115;exact Calls.quiet_of_same (HNB'.out _)) | (go_at_call 116;exact Calls.quiet_of_same (HAR.out _))))
           obtain ⟨x0,x1,x2,x3,xb⟩:=drewC4 nq c0 c1 c2 c4
           clear c0 c1 c2 c4
           generalize wr.drewN nq=wx at *
           go_wp2_with fail
           refine (HIN.out _).mono ?_
           rintro e w3 ⟨rfl,rfl⟩
           go_wp2
           go_ret
           exact ⟨by rw [hres.out,hr.out];rfl,hb'.trans (xb.mono hb'.size)⟩
         ·have i3:((ts.length:Int) != 0)=true:=by rw [bne_iff_ne];exact hm1
          have hr:=Lib.hid (show nodeOB 6 n0 ⟨#[]⟩ ts.length=false by unfold nodeOB;rw [show decide ((ts.length:Int)=arityI 6)=false from decide_eq_false (by first | exact hm1 | (simp [arityI];omega)),Bool.and_false,Bool.false_and])
          clear hs0 hm1
          go_wp2
          go_quiet ((first | (go_at_call 115;exact Calls.quiet_of_same (HNB'.out _)) | (go_at_call 116;exact Calls.quiet_of_same (HAR.out _))))
          obtain ⟨x0,x1,x2,x3,xb⟩:=drewC4 nq c0 c1 c2 c4
          clear c0 c1 c2 c4
          generalize wr.drewN nq=wx at *
          go_wp2
          go_ret
          exact ⟨by rw [hres.out,hr.out];rfl,hb'.trans (xb.mono hb'.size)⟩
        ·have i2:=otoList_nil_no hs0
         have hr:=Lib.hid (show nodeOB 6 n0 nm ts.length=false by unfold nodeOB;simp [hs0])
         clear hs0
         go_wp2
         go_quiet ((first | (go_at_call 115;exact Calls.quiet_of_same (HNB'.out _)) | (go_at_call 116;exact Calls.quiet_of_same (HAR.out _))))
         obtain ⟨x0,x1,x2,x3,xb⟩:=drewC4 nq c0 c1 c2 c4
         clear c0 c1 c2 c4
         generalize wr.drewN nq=wx at *
         go_wp2
         go_ret
         exact ⟨by rw [hres.out,hr.out];rfl,hb'.trans (xb.mono hb'.size)⟩
       ·rw [hin] at HNB
        have HNB':=Lib.hid HNB
        have hz0:=hz hin
        have hr:=Lib.hid (show nodeOB 6 n0 nm ts.length=false by unfold nodeOB;simp [hz0])
        clear hin HNB hz hz0
        go_wp2
        go_quiet ((first | (go_at_call 115;exact Calls.quiet_of_same (HNB'.out _)) | (go_at_call 116;exact Calls.quiet_of_same (HAR.out _))))
        obtain ⟨x0,x1,x2,x3,xb⟩:=drewC4 nq c0 c1 c2 c4
        clear c0 c1 c2 c4
        generalize wr.drewN nq=wx at *
        go_wp2
        go_ret
        exact ⟨by rw [hres.out,hr.out];rfl,hb'.trans (xb.mono hb'.size)⟩
      ·have e6:(k0 == 6)=false:=by rw [beq_eq_false_iff_ne];exact hk6
       by_cases hk7:k0=7
       ·subst hk7
        cases hin:isNameB nm
        ·rw [hin] at HNB
         have HNB':=Lib.hid HNB
         clear hin HNB hz
         rw [show arityI 7=0 from rfl] at HAR
         by_cases hs0:nm.size=0
         ·have hnil:nm=⟨#[]⟩:=osize_nil hs0
          subst hnil
          by_cases hm1:(ts.length:Int)=0
          ·have i3:((ts.length:Int) != 0)=false:=by rw [bne_eq_false_iff_eq];exact hm1
           by_cases hn0:-1000≤n0∧n0≤1000
           ·have HIN:=Lib.hid (fun W=>l1In_yes n0 (-1000) (1000) W hn0.1 hn0.2)
            have hr:=Lib.hid (show nodeOB 7 n0 ⟨#[]⟩ ts.length=true by unfold nodeOB numOB;simp [hn0,hm1,arityI,ByteArray.size])
            clear hm1 hn0 hs0
            go_wp2
            go_quiet ((first | (go_at_call 115;exact Calls.quiet_of_same (HNB'.out _)) | (go_at_call 116;exact Calls.quiet_of_same (HAR.out _))))
            obtain ⟨x0,x1,x2,x3,xb⟩:=drewC4 nq c0 c1 c2 c4
            clear c0 c1 c2 c4
            generalize wr.drewN nq=wx at *
            go_wp2_with fail
            refine (HIN.out _).mono ?_
            rintro e w3 ⟨rfl,rfl⟩
            go_wp2
            go_ret
            exact ⟨by rw [hres.out,hr.out];rfl,hb'.trans (xb.mono hb'.size)⟩
           ·have HIN:=Lib.hid (fun W=>l1In_no n0 (-1000) (1000) W (by omega))
            have hr:=Lib.hid (show nodeOB 7 n0 ⟨#[]⟩ ts.length=false by unfold nodeOB numOB;rw [show decide (-1000≤n0∧n0≤1000)=false from decide_eq_false hn0];simp)
            clear hm1 hn0 hs0
            go_wp2
            go_quiet ((first | (go_at_call 115;exact Calls.quiet_of_same (HNB'.out _)) | (go_at_call 116;exact Calls.quiet_of_same (HAR.out _))))
            obtain ⟨x0,x1,x2,x3,xb⟩:=drewC4 nq c0 c1 c2 c4
            clear c0 c1 c2 c4
            generalize wr.drewN nq=wx at *
            go_wp2_with fail
            refine (HIN.out _).mono ?_
            rintro e w3 ⟨rfl,rfl⟩
            go_wp2
            go_ret
            exact ⟨by rw [hres.out,hr.out];rfl,hb'.trans (xb.mono hb'.size)⟩
          ·have i3:((ts.length:Int) != 0)=true:=by rw [bne_iff_ne];exact hm1
           have hr:=Lib.hid (show nodeOB 7 n0 ⟨#[]⟩ ts.length=false by unfold nodeOB;rw [show decide ((ts.length:Int)=arityI 7)=false from decide_eq_false (by first | exact hm1 | (simp [arityI];omega)),Bool.and_false,Bool.false_and])
           clear hs0 hm1
           go_wp2
           go_quiet ((first | (go_at_call 115;exact Calls.quiet_of_same (HNB'.out _)) | (go_at_call 116;exact Calls.quiet_of_same (HAR.out _))))
           obtain ⟨x0,x1,x2,x3,xb⟩:=drewC4 nq c0 c1 c2 c4
           clear c0 c1 c2 c4
           generalize wr.drewN nq=wx at *
           go_wp2
           go_ret
           exact ⟨by rw [hres.out,hr.out];rfl,hb'.trans (xb.mono hb'.size)⟩
         ·have i2:=otoList_nil_no hs0
          have hr:=Lib.hid (show nodeOB 7 n0 nm ts.length=false by unfold nodeOB;simp [hs0])
          clear hs0
          go_wp2
          go_quiet ((first | (go_at_call 115;exact Calls.quiet_of_same (HNB'.out _)) | (go_at_call 116;exact Calls.quiet_of_same (HAR.out _))))
          obtain ⟨x0,x1,x2,x3,xb⟩:=drewC4 nq c0 c1 c2 c4
          clear c0 c1 c2 c4
          generalize wr.drewN nq=wx at *
          go_wp2
          go_ret
          exact ⟨by rw [hres.out,hr.out];rfl,hb'.trans (xb.mono hb'.size)⟩
        ·rw [hin] at HNB
         have HNB':=Lib.hid HNB
         have hz0:=hz hin
         have hr:=Lib.hid (show nodeOB 7 n0 nm ts.length=false by unfold nodeOB;simp [hz0])
         clear hin HNB hz hz0
         go_wp2
         go_quiet ((first | (go_at_call 115;exact Calls.quiet_of_same (HNB'.out _)) | (go_at_call 116;exact Calls.quiet_of_same (HAR.out _))))
         obtain ⟨x0,x1,x2,x3,xb⟩:=drewC4 nq c0 c1 c2 c4
         clear c0 c1 c2 c4
         generalize wr.drewN nq=wx at *
         go_wp2
         go_ret
         exact ⟨by rw [hres.out,hr.out];rfl,hb'.trans (xb.mono hb'.size)⟩
       ·have e7:(k0 == 7)=false:=by rw [beq_eq_false_iff_ne];exact hk7
        have hnn:=Lib.hid (show ¬ (k0=2∨k0=3∨k0=10) by omega)
        have hn67:=Lib.hid (And.intro hk6 hk7)
        cases hin:isNameB nm
        ·rw [hin] at HNB
         have HNB':=Lib.hid HNB
         clear hin HNB hz
         generalize hai:arityI k0=ai at HAR
         have HAI:=Lib.hid hai
         clear hai
         by_cases hs0:nm.size=0
         ·have hnil:nm=⟨#[]⟩:=osize_nil hs0
          subst hnil
          by_cases hm1:(ts.length:Int)=ai
          ·have i3:((ts.length:Int) != ai)=false:=by rw [bne_eq_false_iff_eq];exact hm1
           by_cases hn0:n0=0
           ·have i4:(n0 == 0)=true:=by rw [beq_iff_eq];exact hn0
            have hr:=Lib.hid (show nodeOB k0 n0 ⟨#[]⟩ ts.length=true by unfold nodeOB numOB;rw [if_neg hnn.out,if_neg hn67.out.1,if_neg hn67.out.2,HAI.out];simp [hm1,hn0,ByteArray.size])
            clear hm1 hn0 hs0 hk2 hk3 hk10 hk6 hk7
            go_wp2
            go_quiet ((first | (go_at_call 115;exact Calls.quiet_of_same (HNB'.out _)) | (go_at_call 116;exact Calls.quiet_of_same (HAR.out _))))
            obtain ⟨x0,x1,x2,x3,xb⟩:=drewC4 nq c0 c1 c2 c4
            clear c0 c1 c2 c4
            generalize wr.drewN nq=wx at *
            go_wp2
            go_ret
            exact ⟨by rw [hres.out,hr.out];rfl,hb'.trans (xb.mono hb'.size)⟩
           ·have i4:(n0 == 0)=false:=by rw [beq_eq_false_iff_ne];exact hn0
            have hr:=Lib.hid (show nodeOB k0 n0 ⟨#[]⟩ ts.length=false by unfold nodeOB numOB;rw [if_neg hn67.out.1,if_neg hn67.out.2];simp [hn0])
            clear hm1 hn0 hs0 hk2 hk3 hk10 hk6 hk7
            go_wp2
            go_quiet ((first | (go_at_call 115;exact Calls.quiet_of_same (HNB'.out _)) | (go_at_call 116;exact Calls.quiet_of_same (HAR.out _))))
            obtain ⟨x0,x1,x2,x3,xb⟩:=drewC4 nq c0 c1 c2 c4
            clear c0 c1 c2 c4
            generalize wr.drewN nq=wx at *
            go_wp2
            go_ret
            exact ⟨by rw [hres.out,hr.out];rfl,hb'.trans (xb.mono hb'.size)⟩
          ·have i3:((ts.length:Int) != ai)=true:=by rw [bne_iff_ne];exact hm1
           have hr:=Lib.hid (show nodeOB k0 n0 ⟨#[]⟩ ts.length=false by unfold nodeOB;rw [HAI.out,show decide ((ts.length:Int)=ai)=false from decide_eq_false hm1,Bool.and_false,Bool.false_and])
           clear hm1 hs0 hk2 hk3 hk10 hk6 hk7
           go_wp2
           go_quiet ((first | (go_at_call 115;exact Calls.quiet_of_same (HNB'.out _)) | (go_at_call 116;exact Calls.quiet_of_same (HAR.out _))))
           obtain ⟨x0,x1,x2,x3,xb⟩:=drewC4 nq c0 c1 c2 c4
           clear c0 c1 c2 c4
           generalize wr.drewN nq=wx at *
           go_wp2
           go_ret
           exact ⟨by rw [hres.out,hr.out];rfl,hb'.trans (xb.mono hb'.size)⟩
         ·have i2:=otoList_nil_no hs0
          have hr:=Lib.hid (show nodeOB k0 n0 nm ts.length=false by unfold nodeOB;rw [if_neg hnn.out];simp [hs0])
          clear hs0 hk2 hk3 hk10 hk6 hk7
          go_wp2
          go_quiet ((first | (go_at_call 115;exact Calls.quiet_of_same (HNB'.out _)) | (go_at_call 116;exact Calls.quiet_of_same (HAR.out _))))
          obtain ⟨x0,x1,x2,x3,xb⟩:=drewC4 nq c0 c1 c2 c4
          clear c0 c1 c2 c4
          generalize wr.drewN nq=wx at *
          go_wp2
          go_ret
          exact ⟨by rw [hres.out,hr.out];rfl,hb'.trans (xb.mono hb'.size)⟩
        ·rw [hin] at HNB
         have HNB':=Lib.hid HNB
         have hz0:=hz hin
         have hr:=Lib.hid (show nodeOB k0 n0 nm ts.length=false by unfold nodeOB;rw [if_neg hnn.out];simp [hz0])
         clear hin HNB hz hz0 hk2 hk3 hk10 hk6 hk7
         go_wp2
         go_quiet ((first | (go_at_call 115;exact Calls.quiet_of_same (HNB'.out _)) | (go_at_call 116;exact Calls.quiet_of_same (HAR.out _))))
         obtain ⟨x0,x1,x2,x3,xb⟩:=drewC4 nq c0 c1 c2 c4
         clear c0 c1 c2 c4
         generalize wr.drewN nq=wx at *
         go_wp2
         go_ret
         exact ⟨by rw [hres.out,hr.out];rfl,hb'.trans (xb.mono hb'.size)⟩
theorem specFormO_any (t:Ot):FormOOne 64 t:=by
 induction t using Ot.ind with
 | h k n nm ts ih=>exact specFormO_of k n nm ts ih
def opticB (t:Ot):Bool:=decide (sizeOt t≤20)&&decide (depthOt t≤10)&&formOt t
set_option maxHeartbeats 1000000 in
theorem specIsOptic_any (t:Ot) (v:Value) (w:World) (hv:OtAt w w.heap.size v t) (hsz:szOt t≤1048576):
  Calls Tryz.prog 19 #[v] w (BoolIs (opticB t) w):=by
 have hv0:=hv
 have hss:=size_le_szO t
 have HL:=Lib.hid (fun W h=>specLeftO_any t v 20 W h (by omega) (by omega))
 have HD:=Lib.hid (fun W h=>specDepthO_any t v W h (by omega))
 have HF:=Lib.hid (fun W h=>specFormO_any t v W h hsz)
 obtain ⟨A,ac,rfl,_,_⟩:=hv.open
 obtain ⟨hb0,p0,hs0⟩:=boxes1 w 30 #[.int .i64 t.kind,.string t.name,.int .i64 t.num,.slice A t.args.length ac]
 have hv1:=hv0.up hb0
 have hpl:=p0.lt
 have HZ:=Lib.hid hs0
 clear hs0 hv hv0
 go_enter Tryz.func19,Tryz.ntmps19
 go_wp2_with fail
 generalize w.alloc (.cells #[.int .i64 t.kind,.string t.name,.int .i64 t.num,.slice A t.args.length ac] 30)=w0 at *
 refine (HL.out w0 hv1).mono ?_
 rintro e w1 ⟨rfl,hb1⟩
 have hb1':=hb0.trans (hb1.mono hb0.size)
 by_cases h30:sizeOt t≤20
 ·rw [show leftOf 20 (sizeOt t)=20 - sizeOt t by unfold leftOf;rw [if_neg (by omega)]]
  have i1:(0:Int)≤20 - sizeOt t:=by omega
  have p1:=p0.below hb1 hpl
  have hv2:=hv1.up hb1
  obtain ⟨c0,c1,c2,c3⟩:=p1.c4
  have H30:=Lib.hid h30
  clear h30
  go_wp2_with fail
  refine (HD.out w1 hv2).mono ?_
  rintro e w2 ⟨rfl,hb2⟩
  have hb2':=hb1'.trans (hb2.mono hb1'.size)
  by_cases h10:depthOt t≤10
  ·have i2:(depthOt t:Int)≤10:=by omega
   have p2:=p1.below hb2 p1.lt
   have hv3:=hv2.up hb2
   obtain ⟨d0,d1,d2,d3⟩:=p2.c4
   have hr:=Lib.hid (show opticB t=formOt t by unfold opticB;simp [H30.out,h10])
   clear h10
   go_wp2_with fail
   refine (HF.out w2 hv3).mono ?_
   rintro e w3 ⟨rfl,hb3⟩
   go_wp2
   go_ret
   exact ⟨by rw [hr.out];rfl,hb2'.trans (hb3.mono hb2'.size)⟩
  ·have i2:¬ (depthOt t:Int)≤10:=by omega
   have hr:=Lib.hid (show opticB t=false by unfold opticB;simp [h10])
   clear h10
   go_wp2
   go_ret
   exact ⟨by rw [hr.out];rfl,hb2'⟩
 ·rw [show leftOf 20 (sizeOt t)=-1 by unfold leftOf;rw [if_pos (by omega)]]
  have hr:=Lib.hid (show opticB t=false by unfold opticB;simp [h30])
  clear h30
  go_wp2
  go_ret
  exact ⟨by rw [hr.out];rfl,hb1'⟩
end
section
open Go.RowKit
def partB (t:Ty) (l:ByteArray):Option Ty:=if validB t∧0≤idxOf t.labels l then t.args[(idxOf t.labels l).toNat]? else none
def zeroTy:Ty:=.mk 0 [] []
def PartPost (t:Ty) (l:ByteArray) (w:World) (e:Ending) (w':World):Prop:=
 ∃ v,e=.returned (.tuple #[v,.bool (partB t l).isSome])∧TyIn w' (Span w.heap.size w'.heap.size) v ((partB t l).getD zeroTy)∧Below w.heap.size w w'
theorem zero_in (w:World) (S:Nat→Prop):TyIn w S (.agg #[.int .i64 0,.slice none 0 0,.slice none 0 0]) zeroTy:=
 TyIn.of (t:=zeroTy) (gl:=0) (Sa:=fun _=>False) (Nat.zero_le _) (fun i h=>absurd h (by simp [zeroTy,Ty.labels])) (.inl rfl) ⟨Nat.zero_le _,0,fun _=>.bool false,fun _ _=>False,.inl rfl,fun i hi=>absurd hi (by simp [zeroTy,Ty.args]),fun i _ hi=>absurd hi (by simp [zeroTy,Ty.args]),fun i hi=>absurd hi (by simp [zeroTy,Ty.args])⟩ (fun _ h=>h.elim)
theorem idxOf_lt (ss:List ByteArray) (s:ByteArray) (h:0≤idxOf ss s):(idxOf ss s).toNat<ss.length:=by
 unfold idxOf at *
 split
 ·rename_i k hk
  have:=List.mem_of_find?_eq_some hk
  have:=List.mem_range.1 this
  simpa using this
 ·rename_i hk
  rw [hk] at h
  simp at h
theorem valid_labels (t:Ty) (hv:validB t=true) (h0:0<t.labels.length):t.args.length=t.labels.length:=by
 cases t with
 | mk k ls ts=>
  unfold validB at hv
  simp only [Bool.and_eq_true] at hv
  have hf:=hv.2
  rw [formTy,Bool.and_eq_true] at hf
  have hn:=hf.2
  simp only [Ty.labels,Ty.args] at *
  unfold nodeB at hn
  split at hn
  ·simp at hn
   have:=hn.1
   simp [this] at h0
  ·split at hn
   ·simp at hn
    exact hn.1
   ·split at hn
    ·simp at hn
     have:=hn.1
     simp [this] at h0
    ·cases hn
theorem partB_some (t:Ty) (l:ByteArray) (hv:validB t=true) (hi:0≤idxOf t.labels l):∃ k:Nat,idxOf t.labels l=k∧∃ h:k<t.args.length,partB t l=some t.args[k]:=by
 have h1:=idxOf_lt t.labels l hi
 have h2:=valid_labels t hv (by omega)
 refine ⟨(idxOf t.labels l).toNat,by omega,by omega,?_⟩
 unfold partB
 rw [if_pos ⟨hv,hi⟩,List.getElem?_eq_getElem]
theorem partB_none (t:Ty) (l:ByteArray) (h:validB t=false∨idxOf t.labels l<0):partB t l=none:=by
 unfold partB
 rw [if_neg]
 rintro ⟨h1,h2⟩
 rcases h with h | h
 ·rw [h1] at h;cases h
 ·omega
set_option maxHeartbeats 4000000 in
theorem specPart_any (t:Ty) (l:ByteArray) (v:Value) (w:World) (hv:TyAt w w.heap.size v t) (hsz:szTy t≤1048576):
  Calls Tryz.prog 184 #[v,.string l] w (PartPost t l w):=by
 have hv0:=hv
 have hval:=Lib.hid (fun W h=>specValid_any t v W h hsz)
 obtain ⟨L,lc,A,ac,rfl,hn,_,hl,ha⟩:=hv.open
 have HN:=Lib.hid hn
 have hse:=szTy_eq t
 have hle:=szTys_len t.args
 obtain ⟨hb0,p0,r0,hs0⟩:=boxes2 w 27 27 #[.int .i64 t.kind,.slice L t.labels.length lc,.slice A t.args.length ac] #[.int .i64 0,.slice none 0 0,.slice none 0 0]
 have hv1:=hv0.up hb0
 have hl0:=hl.up' hb0
 have hpl:=p0.lt
 have hrl:=r0.lt
 have HZ:=Lib.hid hs0
 clear hs0 hv hv0 hl hn
 go_enter Tryz.func184,Tryz.ntmps184
 go_wp2_with fail
 generalize (w.alloc (.cells #[.int .i64 t.kind,.slice L t.labels.length lc,.slice A t.args.length ac] 27)).alloc (.cells #[.int .i64 0,.slice none 0 0,.slice none 0 0] 27)=w0 at *
 refine (specIndexOf_any L lc w0.heap.size t.labels l w0 hl0 HN.out).mono ?_
 rintro e w1 ⟨rfl,rfl⟩
 obtain ⟨q0,q1,q2⟩:=p0.c3
 go_wp2_with fail
 refine (hval.out w0 hv1).mono ?_
 rintro e w1 ⟨rfl,hb1⟩
 have hb1':=hb0.trans (hb1.mono hb0.size)
 have p1:=p0.below hb1 hpl
 have r1:=r0.below hb1 hrl
 have hs1:=hb1.size
 obtain ⟨d0,d1,d2⟩:=r1.c3
 obtain ⟨f0,f1,f2⟩:=r1.f3
 clear q0 q1 q2
 cases hvb:validB t
 ·have hr:=Lib.hid (partB_none t l (.inl hvb))
  clear hvb p1 r1
  go_wp2
  refine bodyPost_ret (v:=.tuple #[.agg #[.int .i64 0,.slice none 0 0,.slice none 0 0],.bool false]) (by simp [results,Tryz.results184,go_sem,d0,d1,d2]) rfl ⟨_,by rw [hr.out];rfl,?_,?_⟩
  ·rw [hr.out]
   exact zero_in _ _
  ·exact ((hb1'.setCell (by simp) _).setCell (by simp) _).setCell (by simp) _
 ·by_cases hix:idxOf t.labels l<0
  ·have hr:=Lib.hid (partB_none t l (.inr hix))
   generalize idxOf t.labels l=x at *
   clear hvb p1 r1
   go_wp2
   refine bodyPost_ret (v:=.tuple #[.agg #[.int .i64 0,.slice none 0 0,.slice none 0 0],.bool false]) (by simp [results,Tryz.results184,go_sem,d0,d1,d2]) rfl ⟨_,by rw [hr.out];rfl,?_,?_⟩
   ·rw [hr.out]
    exact zero_in _ _
   ·exact ((hb1'.setCell (by simp) _).setCell (by simp) _).setCell (by simp) _
  ·obtain ⟨k,hk,hki,hpe⟩:=partB_some t l hvb (by omega)
   rw [hk] at hix ⊢
   have HP:=Lib.hid hpe
   have HK:=Lib.hid hk
   have hm:=ha.1
   unfold maxLen at hm
   clear hvb hpe hk
   have q2:w1.cell? ⟨w.heap.size,2,none⟩=some (.slice A t.args.length ac):=p1.cell 2
   obtain ⟨b,off,M,mc,C,cc,rfl,hbl,e0,e1,e2,_,_,_,_,ht⟩:=(ha.below hb1').elem k hki
   have hpt:=szTy_part t.args k hki
   have hw1:=hb1'.size
   have HT:=Lib.hid (specCopy_any t.args[k] _ w1 (ht.more hw1) (by omega))
   have hkI:(k:Int)<(t.args.length:Int):=by omega
   clear ht p1 d0 d1 d2 f0 f1 f2
   go_wp2_with fail
   refine HT.out.mono ?_
   rintro e w2 ⟨v2,rfl,hv2,hb2⟩
   have HV2:=Lib.hid hv2
   obtain ⟨T1,U1,T2,U2,_,rfl,_⟩:=hv2.open
   have hb2':=hb1'.trans (hb2.mono hw1)
   have r2:=r1.below hb2 r1.lt
   obtain ⟨d0,d1,d2⟩:=r2.c3
   obtain ⟨f0,f1,f2⟩:=r2.f3
   have hzz:=HZ.out
   clear r1 r2 hv2
   go_wp2
   refine bodyPost_ret (v:=.tuple #[.agg #[.int .i64 t.args[k].kind,.slice T1 t.args[k].labels.length U1,.slice T2 t.args[k].args.length U2],.bool true]) (by simp [results,Tryz.results184,go_sem,d0,d1,d2]) rfl ⟨_,by rw [HP.out];rfl,?_,?_⟩
   ·rw [HP.out]
    refine (HV2.out.keep fun q hq _=>?_).wide fun q hq=>⟨by have:=hq.1;omega,?_⟩
    ·have:q≠w.heap.size+1:=by have:=hq.1;omega
     rw [Below.heap_setCell _ _ _ _ this,Below.heap_setCell _ _ _ _ this,Below.heap_setCell _ _ _ _ this]
    ·have:=hq.2
     simpa [World.setCell] using this
   ·exact ((hb2'.setCell (by simp) _).setCell (by simp) _).setCell (by simp) _
end
end Go.Proofs.YtfnblkcmcfofoaaGreatDoor
