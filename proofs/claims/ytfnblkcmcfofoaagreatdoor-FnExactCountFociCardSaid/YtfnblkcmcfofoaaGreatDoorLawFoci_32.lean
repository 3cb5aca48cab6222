/- Lemmas: ImplValid. -/
import Derived.Test.YtfnblkcmcfofoaaGreatDoorLawFoci_27
import Derived.Test.YtfnblkcmcfofoaaGreatDoorLawFoci_6
import Derived.Test.YtfnblkcmcfofoaaGreatDoorLawFoci_10
import Derived.LaidEql
import Derived.Test.YtfnblkcmcfofoaaGreatDoorLawFoci_24

namespace Go.Proofs.YtfnblkcmcfofoaaGreatDoor
set_option maxRecDepth 100000
open Go.RowKit
set_option maxHeartbeats 1000000 in
theorem areLabels_any (A:Option Addr) (c:Nat) (ss:List ByteArray) (w:World) (hA:StrsAt w w.heap.size A ss) (hn:ss.length<maxLen) (hs:∀ i,(h:i<ss.length)→ss[i].size≤maxLen):
  Calls Tryz.prog 190 #[.slice A ss.length c] w (BoolIs (labelsB ss) w):=by
 have hasc:=Lib.hid (fun W h=>implAreAscending_any A c w.heap.size ss W h hn)
 have hn2:=hn
 unfold maxLen at hn2
 have HS:=Lib.hid hs
 clear hs hn
 by_cases h0:ss.length=0
 ·have hr:=Lib.hid (show labelsB ss=false by unfold labelsB;simp [h0])
  have i0:((ss.length:Int) == 0)=true:=by rw [beq_iff_eq];omega
  clear h0
  go_enter Tryz.func190,Tryz.ntmps190
  go_wp2
  go_ret
  exact ⟨by rw [hr.out];rfl,Below.refl _ _⟩
 have i0:((ss.length:Int) == 0)=false:=by rw [beq_eq_false_iff_ne];omega
 by_cases h4:ss.length≤4
 ·have i4:¬ (ss.length:Int) > 4:=by omega
  have H0:=Lib.hid h0
  have H4:=Lib.hid h4
  clear h0 h4
  go_enter Tryz.func190,Tryz.ntmps190
  go_wp2
  go_loopw [15] (fun i wr=>∃ k:Nat,k≤ss.length∧i=.int .i64 k∧(∀ j,(hj:j<ss.length)→j<k→isNameB ss[j]=true)∧Below w.heap.size w wr) (fun i _=>ss.length - (intOf i).toNat)
  case atStart=>exact ⟨0,Nat.zero_le _,rfl,fun j _ h=>absurd h (by omega),Below.refl _ _⟩
  case round=>
   obtain ⟨k,hk,rfl,hall,hb⟩:=hrel
   have HA:=Lib.hid hall
   clear hall
   by_cases hlt:k<ss.length
   ·obtain ⟨b,off,rfl,_,hcell⟩:=(hA.below hb) k hlt
    have hnm:=implIsName_any ss[k] wr (HS.out k hlt)
    cases hnb:isNameB ss[k]
    ·have hd:=Lib.hid (labelsB_no ss k hlt hnb)
     rw [hnb] at hnm
     have HN:=Lib.hid hnm
     clear hnb hnm
     go_wp2_with fail
     refine HN.out.mono ?_
     rintro e w1 ⟨rfl,hb1⟩
     go_wp2
     go_ret
     exact ⟨by rw [hd.out];rfl,hb.trans (hb1.mono hb.size)⟩
    ·rw [hnb] at hnm
     have HN:=Lib.hid hnm
     have HB:=Lib.hid hnb
     clear hnb hnm
     go_wp2_with fail
     refine HN.out.mono ?_
     rintro e w1 ⟨rfl,hb1⟩
     go_wp2
     go_roundw
     case rel=>
      refine ⟨k+1,by omega,by go_num,fun j hj h=>?_,hb.trans (hb1.mono hb.size)⟩
      by_cases e:j=k
      ·subst e
       exact HB.out
      ·exact HA.out j hj (by omega)
     case measure=>simp [intOf];omega
   ·have hd:=Lib.hid (labelsB_all ss (fun j hj=>HA.out j hj (by omega)))
    have he:=Lib.hid (show labelsB ss=ascB ss by
     rw [hd.out]
     have h1:=H0.out
     have h2:=H4.out
     simp [h2]
     omega)
    have hA2:=hA.below hb
    go_wp2_with fail
    refine (hasc.out wr hA2).mono ?_
    rintro e w1 ⟨rfl,n,rfl⟩
    go_wp2
    go_ret
    exact ⟨by rw [he.out];rfl,hb.trans ⟨rfl,rfl,rfl,Nat.le_refl _,fun _ _=>rfl⟩⟩
 ·have i4:(ss.length:Int) > 4:=by omega
  have hr:=Lib.hid (show labelsB ss=false by unfold labelsB;simp [h4])
  clear h0 h4
  go_enter Tryz.func190,Tryz.ntmps190
  go_wp2
  go_ret
  exact ⟨by rw [hr.out];rfl,Below.refl _ _⟩
def FormV (w:World) (L:Option Addr) (lc:Nat) (A:Option Addr) (ac:Nat) (k:Int) (ls:List ByteArray) (ts:List Ty) (fv:Value):Prop:=
 (nodeB k ls ts.length=false∧fv=.nilIface)∨nodeB k ls ts.length=true∧((k=1∧ts=[]∧fv=.iface 177 (.agg #[]))∨(k=2∧ts=[]∧fv=.iface 178 (.agg #[]))∨(k=3∧fv=.iface 180 (.agg #[.slice L ls.length lc,.slice A ts.length ac]))∨
  (k=4∧fv=.iface 182 (.agg #[.slice L ls.length lc,.slice A ts.length ac]))∨(k=5∧∃ (a b c:Value) (t:Ty),ts=[t]∧TyAt w w.heap.size (.agg #[a,b,c]) t∧fv=.iface 184 (.agg #[a,b,c])))
def FormPost (w:World) (L:Option Addr) (lc:Nat) (A:Option Addr) (ac:Nat) (k:Int) (ls:List ByteArray) (ts:List Ty) (e:Ending) (w':World):Prop:=∃ fv,e=.returned fv∧FormV w L lc A ac k ls ts fv∧Below w.heap.size w w'
theorem node1 (k:Int) (ls:List ByteArray) (m:Nat) (h:k=1∨k=2):nodeB k ls m=(decide (ls.length=0)&&decide (m=0)):=by unfold nodeB;rw [if_pos h]
theorem node3 (k:Int) (ls:List ByteArray) (m:Nat) (h:k=3∨k=4):nodeB k ls m=(decide (m=ls.length)&&labelsB ls):=by unfold nodeB;rw [if_neg (by omega),if_pos h]
theorem node5 (k:Int) (ls:List ByteArray) (m:Nat) (h:k=5):nodeB k ls m=(decide (ls.length=0)&&decide (m=1)):=by unfold nodeB;rw [if_neg (by omega),if_neg (by omega),if_pos h]
theorem node0 (k:Int) (ls:List ByteArray) (m:Nat) (h:k≠1∧k≠2∧k≠3∧k≠4∧k≠5):nodeB k ls m=false:=by unfold nodeB;rw [if_neg (by omega),if_neg (by omega),if_neg (by omega)]
theorem formV_nil {w:World} {L:Option Addr} {lc:Nat} {A:Option Addr} {ac:Nat} {k:Int} {ls:List ByteArray} {ts:List Ty} (h:nodeB k ls ts.length=false):FormV w L lc A ac k ls ts .nilIface:=.inl ⟨h,rfl⟩
end Go.Proofs.YtfnblkcmcfofoaaGreatDoor
namespace Go.Proofs.YtfnblkcmcfofoaaGreatDoor
set_option maxRecDepth 100000
open Go.RowKit
set_option maxHeartbeats 4000000 in
theorem formOf_1 (ls:List ByteArray) (ts:List Ty) (L A:Option Addr) (lc ac:Nat) (w:World) (hv:TyAt w w.heap.size (.agg #[.int .i64 1,.slice L ls.length lc,.slice A ts.length ac]) (.mk 1 ls ts)) (hnl:ls.length<maxLen):
  Calls Tryz.prog 158 #[.agg #[.int .i64 1,.slice L ls.length lc,.slice A ts.length ac]] w (FormPost w L lc A ac 1 ls ts):=by
 obtain ⟨L',lc',A',ac',hv0,_,hz,hl,ha⟩:=hv.open
 simp only [Ty.kind,Ty.labels,Ty.args] at hv0 hz hl ha
 simp at hv0
 obtain ⟨⟨rfl,rfl⟩,rfl,rfl⟩:=hv0
 obtain ⟨hb0,p0,hs0⟩:=boxes1 w 27 #[.int .i64 1,.slice L ls.length lc,.slice A ts.length ac]
 have hl0:=hl.up' hb0
 have hm:=ha.1
 unfold maxLen at hm
 have HL:=Lib.hid (areLabels_any L lc ls (w.alloc (.cells #[.int .i64 1,.slice L ls.length lc,.slice A ts.length ac] 27)) hl0 hnl hz)
 have HA:=Lib.hid ha
 clear hv hz hl hl0 ha hs0 hnl
 by_cases hp:ls.length=0
 ·have i0:((ls.length:Int) == 0)=true:=by rw [beq_iff_eq];omega
  have hlf:labelsB ls=false:=by unfold labelsB;simp [hp]
  have HLF:=Lib.hid hlf
  rw [hlf] at HL
  clear hlf
  by_cases hm1:ts.length=0
  ·have i1:((ts.length:Int) == 0)=true:=by rw [beq_iff_eq];omega
   have HV:Hid (FormV w L lc A ac 1 ls ts (.iface 177 (.agg #[]))):=Lib.hid (.inr ⟨by rw [node1 _ _ _ (by omega)];simp [hp,hm1],.inl ⟨rfl,List.length_eq_zero_iff.1 hm1,rfl⟩⟩)
   clear hp
   try clear hm1
   try clear hne
   try clear hq
   go_enter Tryz.func158,Tryz.ntmps158
   go_wp2_with fail
   generalize w.alloc (.cells #[.int .i64 1,.slice L ls.length lc,.slice A ts.length ac] 27)=w0 at *
   refine (HL.out).mono ?_
   rintro e w1 ⟨rfl,hb1⟩
   have p1:=p0.below hb1 p0.lt
   obtain ⟨c0,c1,c2⟩:=p1.c3
   go_wp2
   go_ret
   exact ⟨_,rfl,HV.out,hb0.trans (hb1.mono hb0.size)⟩
  ·have i1:((ts.length:Int) == 0)=false:=by rw [beq_eq_false_iff_ne];omega
   have HV:Hid (FormV w L lc A ac 1 ls ts (.nilIface)):=Lib.hid (formV_nil (by rw [node1 _ _ _ (by omega)];simp [hm1]))
   clear hp
   try clear hm1
   try clear hne
   try clear hq
   go_enter Tryz.func158,Tryz.ntmps158
   go_wp2_with fail
   generalize w.alloc (.cells #[.int .i64 1,.slice L ls.length lc,.slice A ts.length ac] 27)=w0 at *
   refine (HL.out).mono ?_
   rintro e w1 ⟨rfl,hb1⟩
   have p1:=p0.below hb1 p0.lt
   obtain ⟨c0,c1,c2⟩:=p1.c3
   go_wp2
   go_ret
   exact ⟨_,rfl,HV.out,hb0.trans (hb1.mono hb0.size)⟩
 ·have i0:((ls.length:Int) == 0)=false:=by rw [beq_eq_false_iff_ne];omega
  cases hq:labelsB ls
  ·rw [hq] at HL
   have HV:Hid (FormV w L lc A ac 1 ls ts (.nilIface)):=Lib.hid (formV_nil (by rw [node1 _ _ _ (by omega)];simp [hp]))
   clear hp
   try clear hm1
   try clear hne
   try clear hq
   go_enter Tryz.func158,Tryz.ntmps158
   go_wp2_with fail
   generalize w.alloc (.cells #[.int .i64 1,.slice L ls.length lc,.slice A ts.length ac] 27)=w0 at *
   refine (HL.out).mono ?_
   rintro e w1 ⟨rfl,hb1⟩
   have p1:=p0.below hb1 p0.lt
   obtain ⟨c0,c1,c2⟩:=p1.c3
   go_wp2
   go_ret
   exact ⟨_,rfl,HV.out,hb0.trans (hb1.mono hb0.size)⟩
  ·rw [hq] at HL
   by_cases hne:ts.length=ls.length
   ·have i1:((ts.length:Int) == (ls.length:Int))=true:=by rw [beq_iff_eq];omega
    have HV:Hid (FormV w L lc A ac 1 ls ts (.nilIface)):=Lib.hid (formV_nil (by rw [node1 _ _ _ (by omega)];simp [hp]))
    clear hp
    try clear hm1
    try clear hne
    try clear hq
    go_enter Tryz.func158,Tryz.ntmps158
    go_wp2_with fail
    generalize w.alloc (.cells #[.int .i64 1,.slice L ls.length lc,.slice A ts.length ac] 27)=w0 at *
    refine (HL.out).mono ?_
    rintro e w1 ⟨rfl,hb1⟩
    have p1:=p0.below hb1 p0.lt
    obtain ⟨c0,c1,c2⟩:=p1.c3
    go_wp2
    go_ret
    exact ⟨_,rfl,HV.out,hb0.trans (hb1.mono hb0.size)⟩
   ·have i1:((ts.length:Int) == (ls.length:Int))=false:=by rw [beq_eq_false_iff_ne];omega
    have HV:Hid (FormV w L lc A ac 1 ls ts (.nilIface)):=Lib.hid (formV_nil (by rw [node1 _ _ _ (by omega)];simp [hp]))
    clear hp
    try clear hm1
    try clear hne
    try clear hq
    go_enter Tryz.func158,Tryz.ntmps158
    go_wp2_with fail
    generalize w.alloc (.cells #[.int .i64 1,.slice L ls.length lc,.slice A ts.length ac] 27)=w0 at *
    refine (HL.out).mono ?_
    rintro e w1 ⟨rfl,hb1⟩
    have p1:=p0.below hb1 p0.lt
    obtain ⟨c0,c1,c2⟩:=p1.c3
    go_wp2
    go_ret
    exact ⟨_,rfl,HV.out,hb0.trans (hb1.mono hb0.size)⟩
set_option maxHeartbeats 4000000 in
theorem formOf_2 (ls:List ByteArray) (ts:List Ty) (L A:Option Addr) (lc ac:Nat) (w:World) (hv:TyAt w w.heap.size (.agg #[.int .i64 2,.slice L ls.length lc,.slice A ts.length ac]) (.mk 2 ls ts)) (hnl:ls.length<maxLen):
  Calls Tryz.prog 158 #[.agg #[.int .i64 2,.slice L ls.length lc,.slice A ts.length ac]] w (FormPost w L lc A ac 2 ls ts):=by
 obtain ⟨L',lc',A',ac',hv0,_,hz,hl,ha⟩:=hv.open
 simp only [Ty.kind,Ty.labels,Ty.args] at hv0 hz hl ha
 simp at hv0
 obtain ⟨⟨rfl,rfl⟩,rfl,rfl⟩:=hv0
 obtain ⟨hb0,p0,hs0⟩:=boxes1 w 27 #[.int .i64 2,.slice L ls.length lc,.slice A ts.length ac]
 have hl0:=hl.up' hb0
 have hm:=ha.1
 unfold maxLen at hm
 have HL:=Lib.hid (areLabels_any L lc ls (w.alloc (.cells #[.int .i64 2,.slice L ls.length lc,.slice A ts.length ac] 27)) hl0 hnl hz)
 have HA:=Lib.hid ha
 clear hv hz hl hl0 ha hs0 hnl
 by_cases hp:ls.length=0
 ·have i0:((ls.length:Int) == 0)=true:=by rw [beq_iff_eq];omega
  have hlf:labelsB ls=false:=by unfold labelsB;simp [hp]
  have HLF:=Lib.hid hlf
  rw [hlf] at HL
  clear hlf
  by_cases hm1:ts.length=0
  ·have i1:((ts.length:Int) == 0)=true:=by rw [beq_iff_eq];omega
   have HV:Hid (FormV w L lc A ac 2 ls ts (.iface 178 (.agg #[]))):=Lib.hid (.inr ⟨by rw [node1 _ _ _ (by omega)];simp [hp,hm1],.inr (.inl ⟨rfl,List.length_eq_zero_iff.1 hm1,rfl⟩)⟩)
   clear hp
   try clear hm1
   try clear hne
   try clear hq
   go_enter Tryz.func158,Tryz.ntmps158
   go_wp2_with fail
   generalize w.alloc (.cells #[.int .i64 2,.slice L ls.length lc,.slice A ts.length ac] 27)=w0 at *
   refine (HL.out).mono ?_
   rintro e w1 ⟨rfl,hb1⟩
   have p1:=p0.below hb1 p0.lt
   obtain ⟨c0,c1,c2⟩:=p1.c3
   go_wp2
   go_ret
   exact ⟨_,rfl,HV.out,hb0.trans (hb1.mono hb0.size)⟩
  ·have i1:((ts.length:Int) == 0)=false:=by rw [beq_eq_false_iff_ne];omega
   have HV:Hid (FormV w L lc A ac 2 ls ts (.nilIface)):=Lib.hid (formV_nil (by rw [node1 _ _ _ (by omega)];simp [hm1]))
   clear hp
   try clear hm1
   try clear hne
   try clear hq
   go_enter Tryz.func158,Tryz.ntmps158
   go_wp2_with fail
   generalize w.alloc (.cells #[.int .i64 2,.slice L ls.length lc,.slice A ts.length ac] 27)=w0 at *
   refine (HL.out).mono ?_
   rintro e w1 ⟨rfl,hb1⟩
   have p1:=p0.below hb1 p0.lt
   obtain ⟨c0,c1,c2⟩:=p1.c3
   go_wp2
   go_ret
   exact ⟨_,rfl,HV.out,hb0.trans (hb1.mono hb0.size)⟩
 ·have i0:((ls.length:Int) == 0)=false:=by rw [beq_eq_false_iff_ne];omega
  cases hq:labelsB ls
  ·rw [hq] at HL
   have HV:Hid (FormV w L lc A ac 2 ls ts (.nilIface)):=Lib.hid (formV_nil (by rw [node1 _ _ _ (by omega)];simp [hp]))
   clear hp
   try clear hm1
   try clear hne
   try clear hq
   go_enter Tryz.func158,Tryz.ntmps158
   go_wp2_with fail
   generalize w.alloc (.cells #[.int .i64 2,.slice L ls.length lc,.slice A ts.length ac] 27)=w0 at *
   refine (HL.out).mono ?_
   rintro e w1 ⟨rfl,hb1⟩
   have p1:=p0.below hb1 p0.lt
   obtain ⟨c0,c1,c2⟩:=p1.c3
   go_wp2
   go_ret
   exact ⟨_,rfl,HV.out,hb0.trans (hb1.mono hb0.size)⟩
  ·rw [hq] at HL
   by_cases hne:ts.length=ls.length
   ·have i1:((ts.length:Int) == (ls.length:Int))=true:=by rw [beq_iff_eq];omega
    have HV:Hid (FormV w L lc A ac 2 ls ts (.nilIface)):=Lib.hid (formV_nil (by rw [node1 _ _ _ (by omega)];simp [hp]))
    clear hp
    try clear hm1
    try clear hne
    try clear hq
    go_enter Tryz.func158,Tryz.ntmps158
    go_wp2_with fail
    generalize w.alloc (.cells #[.int .i64 2,.slice L ls.length lc,.slice A ts.length ac] 27)=w0 at *
    refine (HL.out).mono ?_
    rintro e w1 ⟨rfl,hb1⟩
    have p1:=p0.below hb1 p0.lt
    obtain ⟨c0,c1,c2⟩:=p1.c3
    go_wp2
    go_ret
    exact ⟨_,rfl,HV.out,hb0.trans (hb1.mono hb0.size)⟩
   ·have i1:((ts.length:Int) == (ls.length:Int))=false:=by rw [beq_eq_false_iff_ne];omega
    have HV:Hid (FormV w L lc A ac 2 ls ts (.nilIface)):=Lib.hid (formV_nil (by rw [node1 _ _ _ (by omega)];simp [hp]))
    clear hp
    try clear hm1
    try clear hne
    try clear hq
    go_enter Tryz.func158,Tryz.ntmps158
    go_wp2_with fail
    generalize w.alloc (.cells #[.int .i64 2,.slice L ls.length lc,.slice A ts.length ac] 27)=w0 at *
    refine (HL.out).mono ?_
    rintro e w1 ⟨rfl,hb1⟩
    have p1:=p0.below hb1 p0.lt
    obtain ⟨c0,c1,c2⟩:=p1.c3
    go_wp2
    go_ret
    exact ⟨_,rfl,HV.out,hb0.trans (hb1.mono hb0.size)⟩
set_option maxHeartbeats 4000000 in
theorem formOf_3 (ls:List ByteArray) (ts:List Ty) (L A:Option Addr) (lc ac:Nat) (w:World) (hv:TyAt w w.heap.size (.agg #[.int .i64 3,.slice L ls.length lc,.slice A ts.length ac]) (.mk 3 ls ts)) (hnl:ls.length<maxLen):
  Calls Tryz.prog 158 #[.agg #[.int .i64 3,.slice L ls.length lc,.slice A ts.length ac]] w (FormPost w L lc A ac 3 ls ts):=by
 obtain ⟨L',lc',A',ac',hv0,_,hz,hl,ha⟩:=hv.open
 simp only [Ty.kind,Ty.labels,Ty.args] at hv0 hz hl ha
 simp at hv0
 obtain ⟨⟨rfl,rfl⟩,rfl,rfl⟩:=hv0
 obtain ⟨hb0,p0,hs0⟩:=boxes1 w 27 #[.int .i64 3,.slice L ls.length lc,.slice A ts.length ac]
 have hl0:=hl.up' hb0
 have hm:=ha.1
 unfold maxLen at hm
 have HL:=Lib.hid (areLabels_any L lc ls (w.alloc (.cells #[.int .i64 3,.slice L ls.length lc,.slice A ts.length ac] 27)) hl0 hnl hz)
 have HA:=Lib.hid ha
 clear hv hz hl hl0 ha hs0 hnl
 by_cases hp:ls.length=0
 ·have i0:((ls.length:Int) == 0)=true:=by rw [beq_iff_eq];omega
  have hlf:labelsB ls=false:=by unfold labelsB;simp [hp]
  have HLF:=Lib.hid hlf
  rw [hlf] at HL
  clear hlf
  have HV:Hid (FormV w L lc A ac 3 ls ts (.nilIface)):=Lib.hid (formV_nil (by rw [node3 _ _ _ (by omega),HLF.out];simp))
  clear hp
  try clear hm1
  try clear hne
  try clear hq
  go_enter Tryz.func158,Tryz.ntmps158
  go_wp2_with fail
  generalize w.alloc (.cells #[.int .i64 3,.slice L ls.length lc,.slice A ts.length ac] 27)=w0 at *
  refine (HL.out).mono ?_
  rintro e w1 ⟨rfl,hb1⟩
  have p1:=p0.below hb1 p0.lt
  obtain ⟨c0,c1,c2⟩:=p1.c3
  go_wp2
  go_ret
  exact ⟨_,rfl,HV.out,hb0.trans (hb1.mono hb0.size)⟩
 ·have i0:((ls.length:Int) == 0)=false:=by rw [beq_eq_false_iff_ne];omega
  cases hq:labelsB ls
  ·rw [hq] at HL
   have HV:Hid (FormV w L lc A ac 3 ls ts (.nilIface)):=Lib.hid (formV_nil (by rw [node3 _ _ _ (by omega),hq];simp))
   clear hp
   try clear hm1
   try clear hne
   try clear hq
   go_enter Tryz.func158,Tryz.ntmps158
   go_wp2_with fail
   generalize w.alloc (.cells #[.int .i64 3,.slice L ls.length lc,.slice A ts.length ac] 27)=w0 at *
   refine (HL.out).mono ?_
   rintro e w1 ⟨rfl,hb1⟩
   have p1:=p0.below hb1 p0.lt
   obtain ⟨c0,c1,c2⟩:=p1.c3
   go_wp2
   go_ret
   exact ⟨_,rfl,HV.out,hb0.trans (hb1.mono hb0.size)⟩
  ·rw [hq] at HL
   by_cases hne:ts.length=ls.length
   ·have i1:((ts.length:Int) == (ls.length:Int))=true:=by rw [beq_iff_eq];omega
    have HV:Hid (FormV w L lc A ac 3 ls ts (.iface 180 (.agg #[.slice L ls.length lc,.slice A ts.length ac]))):=Lib.hid (.inr ⟨by rw [node3 _ _ _ (by omega),hq];simp [hne],.inr (.inr (.inl ⟨rfl,rfl⟩))⟩)
    clear hp
    try clear hm1
    try clear hne
    try clear hq
    go_enter Tryz.func158,Tryz.ntmps158
    go_wp2_with fail
    generalize w.alloc (.cells #[.int .i64 3,.slice L ls.length lc,.slice A ts.length ac] 27)=w0 at *
    refine (HL.out).mono ?_
    rintro e w1 ⟨rfl,hb1⟩
    have p1:=p0.below hb1 p0.lt
    obtain ⟨c0,c1,c2⟩:=p1.c3
    go_wp2
    go_ret
    exact ⟨_,rfl,HV.out,hb0.trans (hb1.mono hb0.size)⟩
   ·have i1:((ts.length:Int) == (ls.length:Int))=false:=by rw [beq_eq_false_iff_ne];omega
    have HV:Hid (FormV w L lc A ac 3 ls ts (.nilIface)):=Lib.hid (formV_nil (by rw [node3 _ _ _ (by omega)];simp [hne]))
    clear hp
    try clear hm1
    try clear hne
    try clear hq
    go_enter Tryz.func158,Tryz.ntmps158
    go_wp2_with fail
    generalize w.alloc (.cells #[.int .i64 3,.slice L ls.length lc,.slice A ts.length ac] 27)=w0 at *
    refine (HL.out).mono ?_
    rintro e w1 ⟨rfl,hb1⟩
    have p1:=p0.below hb1 p0.lt
    obtain ⟨c0,c1,c2⟩:=p1.c3
    go_wp2
    go_ret
    exact ⟨_,rfl,HV.out,hb0.trans (hb1.mono hb0.size)⟩
set_option maxHeartbeats 4000000 in
theorem formOf_4 (ls:List ByteArray) (ts:List Ty) (L A:Option Addr) (lc ac:Nat) (w:World) (hv:TyAt w w.heap.size (.agg #[.int .i64 4,.slice L ls.length lc,.slice A ts.length ac]) (.mk 4 ls ts)) (hnl:ls.length<maxLen):
  Calls Tryz.prog 158 #[.agg #[.int .i64 4,.slice L ls.length lc,.slice A ts.length ac]] w (FormPost w L lc A ac 4 ls ts):=by
 obtain ⟨L',lc',A',ac',hv0,_,hz,hl,ha⟩:=hv.open
 simp only [Ty.kind,Ty.labels,Ty.args] at hv0 hz hl ha
 simp at hv0
 obtain ⟨⟨rfl,rfl⟩,rfl,rfl⟩:=hv0
 obtain ⟨hb0,p0,hs0⟩:=boxes1 w 27 #[.int .i64 4,.slice L ls.length lc,.slice A ts.length ac]
 have hl0:=hl.up' hb0
 have hm:=ha.1
 unfold maxLen at hm
 have HL:=Lib.hid (areLabels_any L lc ls (w.alloc (.cells #[.int .i64 4,.slice L ls.length lc,.slice A ts.length ac] 27)) hl0 hnl hz)
 have HA:=Lib.hid ha
 clear hv hz hl hl0 ha hs0 hnl
 by_cases hp:ls.length=0
 ·have i0:((ls.length:Int) == 0)=true:=by rw [beq_iff_eq];omega
  have hlf:labelsB ls=false:=by unfold labelsB;simp [hp]
  have HLF:=Lib.hid hlf
  rw [hlf] at HL
  clear hlf
  have HV:Hid (FormV w L lc A ac 4 ls ts (.nilIface)):=Lib.hid (formV_nil (by rw [node3 _ _ _ (by omega),HLF.out];simp))
  clear hp
  try clear hm1
  try clear hne
  try clear hq
  go_enter Tryz.func158,Tryz.ntmps158
  go_wp2_with fail
  generalize w.alloc (.cells #[.int .i64 4,.slice L ls.length lc,.slice A ts.length ac] 27)=w0 at *
  refine (HL.out).mono ?_
  rintro e w1 ⟨rfl,hb1⟩
  have p1:=p0.below hb1 p0.lt
  obtain ⟨c0,c1,c2⟩:=p1.c3
  go_wp2
  go_ret
  exact ⟨_,rfl,HV.out,hb0.trans (hb1.mono hb0.size)⟩
 ·have i0:((ls.length:Int) == 0)=false:=by rw [beq_eq_false_iff_ne];omega
  cases hq:labelsB ls
  ·rw [hq] at HL
   have HV:Hid (FormV w L lc A ac 4 ls ts (.nilIface)):=Lib.hid (formV_nil (by rw [node3 _ _ _ (by omega),hq];simp))
   clear hp
   try clear hm1
   try clear hne
   try clear hq
   go_enter Tryz.func158,Tryz.ntmps158
   go_wp2_with fail
   generalize w.alloc (.cells #[.int .i64 4,.slice L ls.length lc,.slice A ts.length ac] 27)=w0 at *
   refine (HL.out).mono ?_
   rintro e w1 ⟨rfl,hb1⟩
   have p1:=p0.below hb1 p0.lt
   obtain ⟨c0,c1,c2⟩:=p1.c3
   go_wp2
   go_ret
   exact ⟨_,rfl,HV.out,hb0.trans (hb1.mono hb0.size)⟩
  ·rw [hq] at HL
   by_cases hne:ts.length=ls.length
   ·have i1:((ts.length:Int) == (ls.length:Int))=true:=by rw [beq_iff_eq];omega
    have HV:Hid (FormV w L lc A ac 4 ls ts (.iface 182 (.agg #[.slice L ls.length lc,.slice A ts.length ac]))):=Lib.hid (.inr ⟨by rw [node3 _ _ _ (by omega),hq];simp [hne],.inr (.inr (.inr (.inl ⟨rfl,rfl⟩)))⟩)
    clear hp
    try clear hm1
    try clear hne
    try clear hq
    go_enter Tryz.func158,Tryz.ntmps158
    go_wp2_with fail
    generalize w.alloc (.cells #[.int .i64 4,.slice L ls.length lc,.slice A ts.length ac] 27)=w0 at *
    refine (HL.out).mono ?_
    rintro e w1 ⟨rfl,hb1⟩
    have p1:=p0.below hb1 p0.lt
    obtain ⟨c0,c1,c2⟩:=p1.c3
    go_wp2
    go_ret
    exact ⟨_,rfl,HV.out,hb0.trans (hb1.mono hb0.size)⟩
   ·have i1:((ts.length:Int) == (ls.length:Int))=false:=by rw [beq_eq_false_iff_ne];omega
    have HV:Hid (FormV w L lc A ac 4 ls ts (.nilIface)):=Lib.hid (formV_nil (by rw [node3 _ _ _ (by omega)];simp [hne]))
    clear hp
    try clear hm1
    try clear hne
    try clear hq
    go_enter Tryz.func158,Tryz.ntmps158
    go_wp2_with fail
    generalize w.alloc (.cells #[.int .i64 4,.slice L ls.length lc,.slice A ts.length ac] 27)=w0 at *
    refine (HL.out).mono ?_
    rintro e w1 ⟨rfl,hb1⟩
    have p1:=p0.below hb1 p0.lt
    obtain ⟨c0,c1,c2⟩:=p1.c3
    go_wp2
    go_ret
    exact ⟨_,rfl,HV.out,hb0.trans (hb1.mono hb0.size)⟩
set_option maxHeartbeats 4000000 in
theorem formOf_5 (ls:List ByteArray) (ts:List Ty) (L A:Option Addr) (lc ac:Nat) (w:World) (hv:TyAt w w.heap.size (.agg #[.int .i64 5,.slice L ls.length lc,.slice A ts.length ac]) (.mk 5 ls ts)) (hnl:ls.length<maxLen):
  Calls Tryz.prog 158 #[.agg #[.int .i64 5,.slice L ls.length lc,.slice A ts.length ac]] w (FormPost w L lc A ac 5 ls ts):=by
 obtain ⟨L',lc',A',ac',hv0,_,hz,hl,ha⟩:=hv.open
 simp only [Ty.kind,Ty.labels,Ty.args] at hv0 hz hl ha
 simp at hv0
 obtain ⟨⟨rfl,rfl⟩,rfl,rfl⟩:=hv0
 obtain ⟨hb0,p0,hs0⟩:=boxes1 w 27 #[.int .i64 5,.slice L ls.length lc,.slice A ts.length ac]
 have hl0:=hl.up' hb0
 have hm:=ha.1
 unfold maxLen at hm
 have HL:=Lib.hid (areLabels_any L lc ls (w.alloc (.cells #[.int .i64 5,.slice L ls.length lc,.slice A ts.length ac] 27)) hl0 hnl hz)
 have HA:=Lib.hid ha
 clear hv hz hl hl0 ha hs0 hnl
 by_cases hp:ls.length=0
 ·have i0:((ls.length:Int) == 0)=true:=by rw [beq_iff_eq];omega
  have hlf:labelsB ls=false:=by unfold labelsB;simp [hp]
  have HLF:=Lib.hid hlf
  rw [hlf] at HL
  clear hlf
  by_cases hm1:ts.length=1
  ·have i1:((ts.length:Int) == 1)=true:=by rw [beq_iff_eq];omega
   have i2:(0:Int)<(ts.length:Int):=by omega
   obtain ⟨b,off,L1,lc1,A1,ac1,rfl,hbw,q0',q1',q2',-,-,-,-,ht1⟩:=HA.out.elem 0 (by omega)
   have hts:ts=[ts[0]'(by omega)]:=by
    match ts,hm1 with
    | [a],_=>rfl
   have hbl:b<(w.alloc (.cells #[.int .i64 5,.slice L ls.length lc,.slice (some ⟨b,off,none⟩) ts.length ac] 27)).heap.size:=by simp;omega
   have q00:=kC hb0 q0' hbw
   have q01:=kC hb0 q1' hbw
   have q02:=kC hb0 q2' hbw
   simp only [Nat.zero_mul,Nat.add_zero] at q00 q01 q02
   clear q0' q1' q2'
   obtain ⟨kk,hkk⟩:∃ kk:Int,kk=(ts[0]'(by omega)).kind:=⟨_,rfl⟩
   obtain ⟨n1,hn1⟩:∃ n1:Nat,n1=(ts[0]'(by omega)).labels.length:=⟨_,rfl⟩
   obtain ⟨n2,hn2⟩:∃ n2:Nat,n2=(ts[0]'(by omega)).args.length:=⟨_,rfl⟩
   rw [← hkk] at q00 ht1
   rw [← hn1] at q01 ht1
   rw [← hn2] at q02 ht1
   have HV:Hid (FormV w L lc (some ⟨b,off,none⟩) ac 5 ls ts (.iface 184 (.agg #[.int .i64 kk,.slice L1 n1 lc1,.slice A1 n2 ac1]))):=Lib.hid (.inr ⟨by rw [node5 _ _ _ rfl];simp [hp,hm1],.inr (.inr (.inr (.inr ⟨rfl,_,_,_,_,hts,ht1,rfl⟩)))⟩)
   clear hp hts ht1 hm1 hkk hn1 hn2
   go_enter Tryz.func158,Tryz.ntmps158
   go_wp2_with fail
   generalize w.alloc (.cells #[.int .i64 5,.slice L ls.length lc,.slice (some ⟨b,off,none⟩) ts.length ac] 27)=w0 at *
   refine (HL.out).mono ?_
   rintro e w1 ⟨rfl,hb1⟩
   have p1:=p0.below hb1 p0.lt
   obtain ⟨c0,c1,c2⟩:=p1.c3
   have q0:=kC hb1 q00 hbl
   have q1:=kC hb1 q01 hbl
   have q2:=kC hb1 q02 hbl
   clear q00 q01 q02
   go_wp2
   go_ret
   exact ⟨_,rfl,HV.out,hb0.trans (hb1.mono hb0.size)⟩
  ·have i1:((ts.length:Int) == 1)=false:=by rw [beq_eq_false_iff_ne];omega
   have HV:Hid (FormV w L lc A ac 5 ls ts (.nilIface)):=Lib.hid (formV_nil (by rw [node5 _ _ _ rfl];simp [hm1]))
   clear hp
   try clear hm1
   try clear hne
   try clear hq
   go_enter Tryz.func158,Tryz.ntmps158
   go_wp2_with fail
   generalize w.alloc (.cells #[.int .i64 5,.slice L ls.length lc,.slice A ts.length ac] 27)=w0 at *
   refine (HL.out).mono ?_
   rintro e w1 ⟨rfl,hb1⟩
   have p1:=p0.below hb1 p0.lt
   obtain ⟨c0,c1,c2⟩:=p1.c3
   go_wp2
   go_ret
   exact ⟨_,rfl,HV.out,hb0.trans (hb1.mono hb0.size)⟩
 ·have i0:((ls.length:Int) == 0)=false:=by rw [beq_eq_false_iff_ne];omega
  cases hq:labelsB ls
  ·rw [hq] at HL
   have HV:Hid (FormV w L lc A ac 5 ls ts (.nilIface)):=Lib.hid (formV_nil (by rw [node5 _ _ _ rfl];simp [hp]))
   clear hp
   try clear hm1
   try clear hne
   try clear hq
   go_enter Tryz.func158,Tryz.ntmps158
   go_wp2_with fail
   generalize w.alloc (.cells #[.int .i64 5,.slice L ls.length lc,.slice A ts.length ac] 27)=w0 at *
   refine (HL.out).mono ?_
   rintro e w1 ⟨rfl,hb1⟩
   have p1:=p0.below hb1 p0.lt
   obtain ⟨c0,c1,c2⟩:=p1.c3
   go_wp2
   go_ret
   exact ⟨_,rfl,HV.out,hb0.trans (hb1.mono hb0.size)⟩
  ·rw [hq] at HL
   by_cases hne:ts.length=ls.length
   ·have i1:((ts.length:Int) == (ls.length:Int))=true:=by rw [beq_iff_eq];omega
    have HV:Hid (FormV w L lc A ac 5 ls ts (.nilIface)):=Lib.hid (formV_nil (by rw [node5 _ _ _ rfl];simp [hp]))
    clear hp
    try clear hm1
    try clear hne
    try clear hq
    go_enter Tryz.func158,Tryz.ntmps158
    go_wp2_with fail
    generalize w.alloc (.cells #[.int .i64 5,.slice L ls.length lc,.slice A ts.length ac] 27)=w0 at *
    refine (HL.out).mono ?_
    rintro e w1 ⟨rfl,hb1⟩
    have p1:=p0.below hb1 p0.lt
    obtain ⟨c0,c1,c2⟩:=p1.c3
    go_wp2
    go_ret
    exact ⟨_,rfl,HV.out,hb0.trans (hb1.mono hb0.size)⟩
   ·have i1:((ts.length:Int) == (ls.length:Int))=false:=by rw [beq_eq_false_iff_ne];omega
    have HV:Hid (FormV w L lc A ac 5 ls ts (.nilIface)):=Lib.hid (formV_nil (by rw [node5 _ _ _ rfl];simp [hp]))
    clear hp
    try clear hm1
    try clear hne
    try clear hq
    go_enter Tryz.func158,Tryz.ntmps158
    go_wp2_with fail
    generalize w.alloc (.cells #[.int .i64 5,.slice L ls.length lc,.slice A ts.length ac] 27)=w0 at *
    refine (HL.out).mono ?_
    rintro e w1 ⟨rfl,hb1⟩
    have p1:=p0.below hb1 p0.lt
    obtain ⟨c0,c1,c2⟩:=p1.c3
    go_wp2
    go_ret
    exact ⟨_,rfl,HV.out,hb0.trans (hb1.mono hb0.size)⟩
set_option maxHeartbeats 4000000 in
theorem formOf_0 (k0:Int) (ls:List ByteArray) (ts:List Ty) (L A:Option Addr) (lc ac:Nat) (w:World) (hv:TyAt w w.heap.size (.agg #[.int .i64 k0,.slice L ls.length lc,.slice A ts.length ac]) (.mk k0 ls ts)) (hnl:ls.length<maxLen) (hk:k0≠1∧k0≠2∧k0≠3∧k0≠4∧k0≠5):
  Calls Tryz.prog 158 #[.agg #[.int .i64 k0,.slice L ls.length lc,.slice A ts.length ac]] w (FormPost w L lc A ac k0 ls ts):=by
 obtain ⟨L',lc',A',ac',hv0,_,hz,hl,ha⟩:=hv.open
 simp only [Ty.kind,Ty.labels,Ty.args] at hv0 hz hl ha
 simp at hv0
 obtain ⟨⟨rfl,rfl⟩,rfl,rfl⟩:=hv0
 obtain ⟨hb0,p0,hs0⟩:=boxes1 w 27 #[.int .i64 k0,.slice L ls.length lc,.slice A ts.length ac]
 have hl0:=hl.up' hb0
 have hm:=ha.1
 unfold maxLen at hm
 have HL:=Lib.hid (areLabels_any L lc ls (w.alloc (.cells #[.int .i64 k0,.slice L ls.length lc,.slice A ts.length ac] 27)) hl0 hnl hz)
 have HA:=Lib.hid ha
 clear hv hz hl hl0 ha hs0 hnl
 have j1:(k0 == 1)=false:=by rw [beq_eq_false_iff_ne];omega
 have j2:(k0 == 2)=false:=by rw [beq_eq_false_iff_ne];omega
 have j3:(k0 == 3)=false:=by rw [beq_eq_false_iff_ne];omega
 have j4:(k0 == 4)=false:=by rw [beq_eq_false_iff_ne];omega
 have j5:(k0 == 5)=false:=by rw [beq_eq_false_iff_ne];omega
 have hnode:=Lib.hid (node0 k0 ls ts.length hk)
 clear hk
 by_cases hp:ls.length=0
 ·have i0:((ls.length:Int) == 0)=true:=by rw [beq_iff_eq];omega
  have hlf:labelsB ls=false:=by unfold labelsB;simp [hp]
  have HLF:=Lib.hid hlf
  rw [hlf] at HL
  clear hlf
  have HV:Hid (FormV w L lc A ac k0 ls ts (.nilIface)):=Lib.hid (formV_nil (by exact hnode.out))
  clear hp
  try clear hm1
  try clear hne
  try clear hq
  go_enter Tryz.func158,Tryz.ntmps158
  go_wp2_with fail
  generalize w.alloc (.cells #[.int .i64 k0,.slice L ls.length lc,.slice A ts.length ac] 27)=w0 at *
  refine (HL.out).mono ?_
  rintro e w1 ⟨rfl,hb1⟩
  have p1:=p0.below hb1 p0.lt
  obtain ⟨c0,c1,c2⟩:=p1.c3
  go_wp2
  go_ret
  exact ⟨_,rfl,HV.out,hb0.trans (hb1.mono hb0.size)⟩
 ·have i0:((ls.length:Int) == 0)=false:=by rw [beq_eq_false_iff_ne];omega
  cases hq:labelsB ls
  ·rw [hq] at HL
   have HV:Hid (FormV w L lc A ac k0 ls ts (.nilIface)):=Lib.hid (formV_nil (by exact hnode.out))
   clear hp
   try clear hm1
   try clear hne
   try clear hq
   go_enter Tryz.func158,Tryz.ntmps158
   go_wp2_with fail
   generalize w.alloc (.cells #[.int .i64 k0,.slice L ls.length lc,.slice A ts.length ac] 27)=w0 at *
   refine (HL.out).mono ?_
   rintro e w1 ⟨rfl,hb1⟩
   have p1:=p0.below hb1 p0.lt
   obtain ⟨c0,c1,c2⟩:=p1.c3
   go_wp2
   go_ret
   exact ⟨_,rfl,HV.out,hb0.trans (hb1.mono hb0.size)⟩
  ·rw [hq] at HL
   by_cases hne:ts.length=ls.length
   ·have i1:((ts.length:Int) == (ls.length:Int))=true:=by rw [beq_iff_eq];omega
    have HV:Hid (FormV w L lc A ac k0 ls ts (.nilIface)):=Lib.hid (formV_nil (by exact hnode.out))
    clear hp
    try clear hm1
    try clear hne
    try clear hq
    go_enter Tryz.func158,Tryz.ntmps158
    go_wp2_with fail
    generalize w.alloc (.cells #[.int .i64 k0,.slice L ls.length lc,.slice A ts.length ac] 27)=w0 at *
    refine (HL.out).mono ?_
    rintro e w1 ⟨rfl,hb1⟩
    have p1:=p0.below hb1 p0.lt
    obtain ⟨c0,c1,c2⟩:=p1.c3
    go_wp2
    go_ret
    exact ⟨_,rfl,HV.out,hb0.trans (hb1.mono hb0.size)⟩
   ·have i1:((ts.length:Int) == (ls.length:Int))=false:=by rw [beq_eq_false_iff_ne];omega
    have HV:Hid (FormV w L lc A ac k0 ls ts (.nilIface)):=Lib.hid (formV_nil (by exact hnode.out))
    clear hp
    try clear hm1
    try clear hne
    try clear hq
    go_enter Tryz.func158,Tryz.ntmps158
    go_wp2_with fail
    generalize w.alloc (.cells #[.int .i64 k0,.slice L ls.length lc,.slice A ts.length ac] 27)=w0 at *
    refine (HL.out).mono ?_
    rintro e w1 ⟨rfl,hb1⟩
    have p1:=p0.below hb1 p0.lt
    obtain ⟨c0,c1,c2⟩:=p1.c3
    go_wp2
    go_ret
    exact ⟨_,rfl,HV.out,hb0.trans (hb1.mono hb0.size)⟩
theorem formOf_any (k0:Int) (ls:List ByteArray) (ts:List Ty) (L A:Option Addr) (lc ac:Nat) (w:World) (hv:TyAt w w.heap.size (.agg #[.int .i64 k0,.slice L ls.length lc,.slice A ts.length ac]) (.mk k0 ls ts)) (hnl:ls.length<maxLen):
  Calls Tryz.prog 158 #[.agg #[.int .i64 k0,.slice L ls.length lc,.slice A ts.length ac]] w (FormPost w L lc A ac k0 ls ts):=by
 by_cases h1:k0=1
 ·subst h1;exact formOf_1 ls ts L A lc ac w hv hnl
 by_cases h2:k0=2
 ·subst h2;exact formOf_2 ls ts L A lc ac w hv hnl
 by_cases h3:k0=3
 ·subst h3;exact formOf_3 ls ts L A lc ac w hv hnl
 by_cases h4:k0=4
 ·subst h4;exact formOf_4 ls ts L A lc ac w hv hnl
 by_cases h5:k0=5
 ·subst h5;exact formOf_5 ls ts L A lc ac w hv hnl
 exact formOf_0 k0 ls ts L A lc ac w hv hnl ⟨h1,h2,h3,h4,h5⟩
end Go.Proofs.YtfnblkcmcfofoaaGreatDoor
namespace Go.Proofs.YtfnblkcmcfofoaaGreatDoor
set_option maxRecDepth 100000
open Go.RowKit
def PartsPost (w:World) (ts:List Ty) (e:Ending) (w':World):Prop:=∃ A c,e=.returned (.slice A ts.length c)∧TysAt w' w'.heap.size A ts∧Below w.heap.size w w'
theorem parts_int (w:World):Calls Tryz.prog 242 #[.agg #[]] w (PartsPost w []):=by
 go_enter Tryz.func242,Tryz.ntmps242
 go_wp2
 go_ret
 exact ⟨none,0,rfl,⟨by simp,fun _=>.bool false,fun i hi=>absurd hi (by simp),fun i hi=>absurd hi (by simp)⟩,(Below.refl _ _).alloc (Nat.le_refl _) _⟩
theorem parts_bool (w:World):Calls Tryz.prog 243 #[.agg #[]] w (PartsPost w []):=by
 go_enter Tryz.func243,Tryz.ntmps243
 go_wp2
 go_ret
 exact ⟨none,0,rfl,⟨by simp,fun _=>.bool false,fun i hi=>absurd hi (by simp),fun i hi=>absurd hi (by simp)⟩,(Below.refl _ _).alloc (Nat.le_refl _) _⟩
theorem parts_rec (w:World) (L A:Option Addr) (n lc ac:Nat) (ts:List Ty) (ha:TysAt w w.heap.size A ts):Calls Tryz.prog 244 #[.agg #[.slice L n lc,.slice A ts.length ac]] w (PartsPost w ts):=by
 have hb:=(Below.refl w.heap.size w).alloc (Nat.le_refl _) (.cells #[.slice L n lc,.slice A ts.length ac] 180)
 have ha1:=Lib.hid (ha.up hb)
 clear ha
 go_enter Tryz.func244,Tryz.ntmps244
 go_wp2
 go_ret
 exact ⟨A,ac,rfl,ha1.out,hb⟩
theorem parts_sum (w:World) (L A:Option Addr) (n lc ac:Nat) (ts:List Ty) (ha:TysAt w w.heap.size A ts):Calls Tryz.prog 245 #[.agg #[.slice L n lc,.slice A ts.length ac]] w (PartsPost w ts):=by
 have hb:=(Below.refl w.heap.size w).alloc (Nat.le_refl _) (.cells #[.slice L n lc,.slice A ts.length ac] 182)
 have ha1:=Lib.hid (ha.up hb)
 clear ha
 go_enter Tryz.func245,Tryz.ntmps245
 go_wp2
 go_ret
 exact ⟨A,ac,rfl,ha1.out,hb⟩
theorem parts_list (w:World) (t:Ty) (a b c:Value) (ht:TyAt w w.heap.size (.agg #[a,b,c]) t):Calls Tryz.prog 246 #[.agg #[a,b,c]] w (PartsPost w [t]):=by
 obtain ⟨L,lc,A,ac,hv,_⟩:=ht.open
 simp at hv
 obtain ⟨rfl,rfl,rfl⟩:=hv
 have hb:=(Below.refl w.heap.size w).alloc (Nat.le_refl _) (.cells #[.int .i64 t.kind,.slice L t.labels.length lc,.slice A t.args.length ac] 184)
 have hb2:=hb.alloc hb.size (.cells #[.int .i64 t.kind,.slice L t.labels.length lc,.slice A t.args.length ac] 27)
 have hW:=Whole1.new (w.alloc (.cells #[.int .i64 t.kind,.slice L t.labels.length lc,.slice A t.args.length ac] 184)) 27 #[.int .i64 t.kind,.slice L t.labels.length lc,.slice A t.args.length ac]
 have hs:(w.alloc (.cells #[.int .i64 t.kind,.slice L t.labels.length lc,.slice A t.args.length ac] 184)).heap.size=w.heap.size+1:=by simp
 rw [hs] at hW
 have H1:=Lib.hid hW
 have H2:=Lib.hid (ht.up hb2)
 have H3:=Lib.hid hb2
 clear hb hb2 hW hs ht
 go_enter Tryz.func246,Tryz.ntmps246
 go_wp2
 go_ret
 refine ⟨some ⟨w.heap.size+1,0,none⟩,1,rfl,⟨by simp [maxLen],fun _=>.agg #[.int .i64 t.kind,.slice L t.labels.length lc,.slice A t.args.length ac],fun i hi=>⟨_,_,rfl,by simp,fun j hj=>?_⟩,fun i hi=>?_⟩,H3.out⟩
 ·have hi0:i=0:=by simpa using hi
  subst hi0
  rw [Nat.zero_mul,Nat.add_zero,Nat.zero_add]
  refine (H1.out.cell j).trans ?_
  simp [partAt]
 ·have hi0:i=0:=by simpa using hi
  subst hi0
  exact H2.out
theorem run_eql_iface_nil_right {P:Program} (w:World) {ti:TypeId} {ms:Array (String×TypeId)} (tp:TypeId) (v:Value) (hi:P.underlying ti=some (.interface ms)):
  (binOp .eql ti (.iface tp v) .nilIface).run P w=.ok (.bool false) w:=by
 have h:∀ d:Nat,(Op.equalIn (d+1) ti (.iface tp v) .nilIface).run P w=.ok false w:=fun d=>by simp [Op.equalIn,run_underlying hi]
 simp only [binOp]
 simp [Op.equal,Op.maxDepth,h 9999]
theorem meth_int (n:Nat) (v:Value) (w:World):(method (n+1) 177 v "loop.example/g00592/impl.parts").run Tryz.prog w=.ok (242,v) w:=by kernel_rfl
theorem meth_bool (n:Nat) (v:Value) (w:World):(method (n+1) 178 v "loop.example/g00592/impl.parts").run Tryz.prog w=.ok (243,v) w:=by kernel_rfl
theorem meth_rec (n:Nat) (v:Value) (w:World):(method (n+1) 180 v "loop.example/g00592/impl.parts").run Tryz.prog w=.ok (244,v) w:=by kernel_rfl
theorem meth_sum (n:Nat) (v:Value) (w:World):(method (n+1) 182 v "loop.example/g00592/impl.parts").run Tryz.prog w=.ok (245,v) w:=by kernel_rfl
theorem meth_list (n:Nat) (v:Value) (w:World):(method (n+1) 184 v "loop.example/g00592/impl.parts").run Tryz.prog w=.ok (246,v) w:=by kernel_rfl
def EnterOf (fn:Nat):Prop:=∀ args W,(callFunc fn args).run Tryz.prog W=.ok (.enter fn args) W
def HasOne (t:Ty):Prop:=∀ (v:Value) (d:Nat) (w:World),TyAt w w.heap.size v t→szTy t≤1048576→d≤100→Calls Tryz.prog 145 #[v,.int .i64 (d:Int)] w (BoolIs (formTy t&&decide (depthTy t≤d)) w)
theorem depthTys_no:∀ (ts:List Ty) (i:Nat) (h:i<ts.length),depthTy ts[i]≤depthTys ts
 | [],i,h=>absurd h (by simp)
 | t::r,0,_=>by
  rw [depthTys]
  exact Nat.le_max_left _ _
 | t::r,i+1,h=>by
  rw [depthTys]
  exact Nat.le_trans (depthTys_no r i (by simpa using h)) (Nat.le_max_right _ _)
theorem depthTys_all:∀ (ts:List Ty) (d:Nat),(∀ i,(h:i<ts.length)→depthTy ts[i]≤d)→depthTys ts≤d
 | [],d,_=>by rw [depthTys];omega
 | t::r,d,h=>by
  rw [depthTys]
  have h1:depthTy t≤d:=h 0 (by simp)
  have h2:=depthTys_all r d fun i hi=>h (i+1) (by simpa using hi)
  omega
set_option maxHeartbeats 4000000 in
theorem hasForms_of (k0:Int) (ls:List ByteArray) (ts:List Ty) (hall:∀ i,(h:i<ts.length)→HasOne ts[i]):HasOne (.mk k0 ls ts):=by
 intro v d w hv hsz hd100
 have hse:=szTy_eq (.mk k0 ls ts)
 have hfe:formTy (.mk k0 ls ts)=(formTys ts&&nodeB k0 ls ts.length):=by rw [formTy]
 have hde:depthTy (.mk k0 ls ts)=depthTys ts+1:=by rw [depthTy]
 have hv0:=hv
 obtain ⟨L,lc,A,ac,rfl,hn,hz,hl,ha⟩:=hv.open
 simp only [Ty.kind,Ty.labels,Ty.args] at *
 have hm:=ha.1
 have hnl:ls.length<maxLen:=by unfold maxLen;omega
 unfold maxLen at hm hn
 have hsz2:szTys ts≤1048576:=by omega
 have HALL:=Lib.hid hall
 have HFE:=Lib.hid hfe
 have HDE:=Lib.hid hde
 obtain ⟨hb0,p0,hs0⟩:=boxes1 w 27 #[.int .i64 k0,.slice L ls.length lc,.slice A ts.length ac]
 have ha0:=ha.up hb0
 have HV:=Lib.hid (formOf_any k0 ls ts L A lc ac _ (hv0.up hb0) hnl)
 clear hall hv hv0 hz hl ha hfe hde hse hs0 hnl
 go_enter Tryz.func145,Tryz.ntmps145
 go_wp2_with fail
 generalize w.alloc (.cells #[.int .i64 k0,.slice L ls.length lc,.slice A ts.length ac] 27)=w0 at *
 refine HV.out.mono ?_
 rintro e w1 ⟨fv,rfl,hfv,hb1⟩
 have hb1':=hb0.trans (hb1.mono hb0.size)
 have ha1:=ha0.up hb1
 clear HV ha0 p0 hb0
 rcases hfv with ⟨hnode,rfl⟩ | ⟨hnode,hfv⟩
 ·have hr:=Lib.hid (show (formTy (.mk k0 ls ts)&&decide (depthTy (.mk k0 ls ts)≤d))=false by rw [HFE.out,hnode];simp)
  clear hnode
  go_wp2
  go_ret
  exact ⟨by rw [hr.out];rfl,hb1'⟩
 ·have HNODE:=Lib.hid hnode
  have hne:∀ tp x W,(binOp .eql 174 (.iface tp x) .nilIface).run Tryz.prog W=.ok (.bool false) W:=fun tp x W=>run_eql_iface_nil_right W tp x Tryz.underlying174
  clear hnode
  have HP:∃ (tp:TypeId) (x:Value) (fn:Nat),fv=.iface tp x∧(∀ n W,(method (n+1) tp x "loop.example/g00592/impl.parts").run Tryz.prog W=.ok (fn,x) W)∧Calls Tryz.prog fn #[x] w1 (PartsPost w1 ts)∧EnterOf fn:=by
   rcases hfv with ⟨rfl,hts,rfl⟩ | ⟨rfl,hts,rfl⟩ | ⟨rfl,rfl⟩ | ⟨rfl,rfl⟩ | ⟨rfl,a,b,c,t,hts,ht,rfl⟩
   ·exact ⟨_,_,_,rfl,fun n W=>meth_int n _ W,by rw [hts];exact parts_int w1,enters_of Tryz.func242 (by kernel_rfl) rfl⟩
   ·exact ⟨_,_,_,rfl,fun n W=>meth_bool n _ W,by rw [hts];exact parts_bool w1,enters_of Tryz.func243 (by kernel_rfl) rfl⟩
   ·exact ⟨_,_,_,rfl,fun n W=>meth_rec n _ W,parts_rec w1 L A _ lc ac ts ha1,enters_of Tryz.func244 (by kernel_rfl) rfl⟩
   ·exact ⟨_,_,_,rfl,fun n W=>meth_sum n _ W,parts_sum w1 L A _ lc ac ts ha1,enters_of Tryz.func245 (by kernel_rfl) rfl⟩
   ·exact ⟨_,_,_,rfl,fun n W=>meth_list n _ W,by rw [hts];exact parts_list w1 t a b c (ht.up hb1),enters_of Tryz.func246 (by kernel_rfl) rfl⟩
  obtain ⟨tp,x,fn,rfl,hmeth,hparts,henter⟩:=HP
  have HPA:=Lib.hid hparts
  unfold EnterOf at henter
  clear hfv hparts
  by_cases hd0:d=0
  ·have hr:=Lib.hid (show (formTy (.mk k0 ls ts)&&decide (depthTy (.mk k0 ls ts)≤d))=false by rw [HDE.out,hd0];simp)
   have i0:((d:Int) == 0)=true:=by rw [beq_iff_eq];omega
   clear hd0
   go_wp2
   go_ret
   exact ⟨by rw [hr.out];rfl,hb1'⟩
  ·have i0:((d:Int) == 0)=false:=by rw [beq_eq_false_iff_ne];omega
   have HD0:=Lib.hid hd0
   clear hd0
   go_wp2_with fail
   refine HPA.out.mono ?_
   rintro e w2 ⟨A2,c2,rfl,ha2,hb2⟩
   have hb2':=hb1'.trans (hb2.mono hb1'.size)
   clear ha1 HPA hmeth henter hne
   go_wp2
   go_loopw [19] (fun i wr=>∃ k:Nat,k≤ts.length∧i=.int .i64 k∧(∀ j,(hj:j<ts.length)→j<k→formTy ts[j]=true∧depthTy ts[j]≤d - 1)∧Below w2.heap.size w2 wr) (fun i _=>ts.length - (intOf i).toNat)
   case atStart=>exact ⟨0,Nat.zero_le _,rfl,fun j _ h=>absurd h (by omega),Below.refl _ _⟩
   case round=>
    obtain ⟨k,hk,rfl,hall,hb⟩:=hrel
    have HA:=Lib.hid hall
    clear hall
    have hbw:=hb2'.trans (hb.mono hb2'.size)
    by_cases hlt:k<ts.length
    ·obtain ⟨b,off,L1,lc1,A1,ac1,rfl,hbl,q0,q1,q2,_,_,_,_,ht⟩:=(ha2.below hb).elem k hlt
     have hpt:=szTy_part ts k hlt
     have hbx:=(Below.refl wr.heap.size wr).alloc (Nat.le_refl _) (.cells #[.int .i64 ts[k].kind,.slice L1 ts[k].labels.length lc1,.slice A1 ts[k].args.length ac1] 27)
     have hdI:((d - 1:Nat):Int)=(d:Int) - 1:=by have:=HD0.out;omega
     have HT:=HALL.out k hlt _ (d - 1) _ ((ht.more hb.size).up hbx) (by omega) (by omega)
     rw [hdI] at HT
     cases hfk:formTy ts[k]&&decide (depthTy ts[k]≤d - 1)
     ·rw [hfk] at HT
      have HT':=Lib.hid HT
      have hr:=Lib.hid (show (formTy (.mk k0 ls ts)&&decide (depthTy (.mk k0 ls ts)≤d))=false by
       have hd1:=HD0.out
       rw [Bool.and_eq_false_iff] at hfk
       rcases hfk with h | h
       ·rw [HFE.out,formTys_no ts k hlt h]
        rfl
       ·have h1:=depthTys_no ts k hlt
        have h2:¬ depthTy ts[k]≤d - 1:=by simpa using h
        rw [HDE.out,Bool.and_eq_false_iff]
        right
        simp
        omega)
      clear ht HT hfk hdI
      go_wp2_with fail
      refine HT'.out.mono ?_
      rintro e w3 ⟨rfl,hb3⟩
      go_wp2
      go_ret
      exact ⟨by rw [hr.out];rfl,hbw.trans ((hbx.trans (hb3.mono (by simp))).mono hbw.size)⟩
     ·rw [hfk] at HT
      have HT':=Lib.hid HT
      have HK:=Lib.hid hfk
      clear ht HT hfk hdI
      go_wp2_with fail
      refine HT'.out.mono ?_
      rintro e w3 ⟨rfl,hb3⟩
      go_wp2
      go_roundw
      case rel=>
       refine ⟨k+1,by omega,by go_num,fun j hj h=>?_,hb.trans ((hbx.trans (hb3.mono (by simp))).mono hb.size)⟩
       by_cases e:j=k
       ·subst e
        have:=HK.out
        simp at this
        exact this
       ·exact HA.out j hj (by omega)
      case measure=>simp [intOf];omega
    ·have hr:=Lib.hid (show (formTy (.mk k0 ls ts)&&decide (depthTy (.mk k0 ls ts)≤d))=true by
      have h1:=formTys_all ts fun i hi=>(HA.out i hi (by omega)).1
      have h2:=depthTys_all ts (d - 1) fun i hi=>(HA.out i hi (by omega)).2
      have hd1:=HD0.out
      rw [HFE.out,HDE.out,h1,HNODE.out]
      simp
      omega)
     go_wp2
     go_ret
     exact ⟨by rw [hr.out];rfl,hbw⟩
theorem hasForms_any (t:Ty):HasOne t:=by
 induction t using Ty.ind with
 | h k ls ts ih=>exact hasForms_of k ls ts ih
end Go.Proofs.YtfnblkcmcfofoaaGreatDoor
namespace Go.Proofs.YtfnblkcmcfofoaaGreatDoor
set_option maxRecDepth 100000
open Go.RowKit
set_option maxHeartbeats 1000000 in
theorem implValid_any (t:Ty) (v:Value) (w:World) (hv:OwnT w v t) (hsz:szTy t≤1048576):Calls Tryz.prog 99 #[v] w (BoolIs (validB t) w):=by
 have hss:=size_le_sz t
 have HF:=Lib.hid (fun V W h=>hasForms_any t V 8 W h hsz (by omega))
 have HS:=Lib.hid (fun V W h=>implSizeOf_any t V W h (by omega))
 obtain ⟨L,lc,A,ac,rfl,_⟩:=hv.open
 obtain ⟨hb0,p0,hs0⟩:=boxes1 w 27 #[.int .i64 t.kind,.slice L t.labels.length lc,.slice A t.args.length ac]
 have hv0:=hv.up hb0
 clear hv hs0
 go_enter Tryz.func99,Tryz.ntmps99
 go_wp2_with fail
 generalize w.alloc (.cells #[.int .i64 t.kind,.slice L t.labels.length lc,.slice A t.args.length ac] 27)=w0 at *
 refine (HF.out _ w0 hv0.here).mono ?_
 rintro e w1 ⟨rfl,hb1⟩
 have hb1':=hb0.trans (hb1.mono hb0.size)
 have p1:=p0.below hb1 p0.lt
 have hv1:=hv0.up hb1
 obtain ⟨c0,c1,c2⟩:=p1.c3
 clear hv0 p0 hb0 hb1
 cases hf:formTy t&&decide (depthTy t≤8)
 ·have hr:=Lib.hid (show validB t=false by
   unfold validB
   rw [Bool.and_eq_false_iff] at hf ⊢
   rcases hf with h | h
   ·exact .inr h
   ·left
    rw [h,Bool.and_false])
  clear hf
  go_wp2
  go_ret
  exact ⟨by rw [hr.out];rfl,hb1'⟩
 ·have HFT:=Lib.hid hf
  clear hf
  go_wp2_with fail
  refine (HS.out _ w1 hv1).mono ?_
  rintro e w2 ⟨rfl,hb2⟩
  have hb2':=hb1'.trans (hb2.mono hb1'.size)
  by_cases h30:sizeTy t≤30
  ·have i1:(sizeTy t:Int)≤30:=by omega
   have hr:=Lib.hid (show validB t=true by
    have:=HFT.out
    rw [Bool.and_eq_true_iff] at this
    unfold validB
    rw [this.1,this.2]
    simp [h30])
   clear h30
   go_wp2
   go_ret
   exact ⟨by rw [hr.out];rfl,hb2'⟩
  ·have i1:decide ((sizeTy t:Int)≤30)=false:=by rw [decide_eq_false_iff_not];omega
   have hr:=Lib.hid (show validB t=false by unfold validB;simp [h30])
   clear h30
   go_wp2
   go_ret
   exact ⟨by rw [hr.out];rfl,hb2'⟩
end Go.Proofs.YtfnblkcmcfofoaaGreatDoor
