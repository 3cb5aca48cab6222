/- Lemmas: ImplIsVa, VPlace. -/
import Derived.Test.YtfnblkcmcfofoaaGreatDoorLawFoci_27
import Derived.Test.YtfnblkcmcfofoaaGreatDoorLawFoci_32
import Derived.Test.YtfnblkcmcfofoaaGreatDoorLawFoci_11
import Derived.Test.YtfnblkcmcfofoaaGreatDoorLawFoci_1
import Derived.Test.YtfnblkcmcfofoaaGreatDoorLawFoci_23
import Derived.Test.YtfnblkcmcfofoaaGreatDoorLawFoci_3

namespace Go.Proofs.YtfnblkcmcfofoaaGreatDoor
section
set_option maxRecDepth 100000
open Go.RowKit
def formCells:List Value:=[.int .i64 0,.int .i64 0,.bool false,.bool false,.int .i64 0,.int .i64 0,.int .i64 (-9223372036854775808),.int .i64 9223372036854775807,.bool false,.bool false,.int .i64 0,.int .i64 0,.int .i64 0,.int .i64 1,.bool false,.bool false,.int .i64 0,.int .i64 0,.int .i64 0,.int .i64 0,.bool false,.bool true,.int .i64 1,.int .i64 4,.int .i64 0,.int .i64 0,.bool true,.bool false,.int .i64 1,.int .i64 1,.int .i64 0,.int .i64 0,.bool false,.bool false,.int .i64 0,.int .i64 9223372036854775807]
def FormsAt (w:World):Prop:=1<w.heap.size∧∀ i,i<36→w.cell? ⟨1,i,none⟩=formCells[i]?
theorem FormsAt.below {w w':World} (h:FormsAt w) (hb:Below w.heap.size w w'):FormsAt w':=⟨Nat.lt_of_lt_of_le h.1 hb.size,fun i hi=>(hb.cell (p:=⟨1,i,none⟩) h.1).trans (h.2 i hi)⟩
def textsOk (b1 b2:Bool) (nm:ByteArray) (ls:List ByteArray):Bool:=if b1=decide (nm.size≠0)∧b2=decide (ls.length≠0) then (!b1 || isNameB nm)&&(!b2 || labelsB ls) else false
set_option maxHeartbeats 4000000 in
theorem allowsTexts_any (b1 b2:Bool) (a b c d:Int) (k0 n0:Int) (nm:ByteArray) (ls:List ByteArray) (m:Nat) (L A:Option Addr) (lc ac:Nat) (w:World) (hl:StrsAt w w.heap.size L ls) (hnm:nm.size≤maxLen) (hn:ls.length<maxLen) (hz:∀ i,(h:i<ls.length)→ls[i].size≤maxLen):
  Calls Tryz.prog 204 #[.agg #[.int .i64 a,.int .i64 b,.bool b1,.bool b2,.int .i64 c,.int .i64 d],.agg #[.int .i64 k0,.int .i64 n0,.string nm,.slice L ls.length lc,.slice A m ac]] w (BoolIs (textsOk b1 b2 nm ls) w):=by
 obtain ⟨hb0,p0,q0,hs0⟩:=boxes2 w 232 41 #[.int .i64 a,.int .i64 b,.bool b1,.bool b2,.int .i64 c,.int .i64 d] #[.int .i64 k0,.int .i64 n0,.string nm,.slice L ls.length lc,.slice A m ac]
 have HL:=Lib.hid (fun W (h:Below w.heap.size w W)=>areLabels_any L lc ls W (hl.up' h) hn hz)
 have HI:=Lib.hid (fun W=>implIsName_any nm W hnm)
 clear hl hz hs0
 have hu:textsOk b1 b2 nm ls=textsOk b1 b2 nm ls:=rfl
 unfold textsOk at hu
 by_cases e1:nm.size=0
 ·have hnil:nm=⟨#[]⟩:=by
   obtain ⟨⟨l⟩⟩:=nm
   have:l=[]:=List.length_eq_zero_iff.1 e1
   rw [this]
  subst hnil
  by_cases e2:ls.length=0
  ·have j2:decide (0<ls.length)=false:=by rw [decide_eq_false_iff_not];omega
   cases b1
   ·cases b2
    ·have hr:=Lib.hid (show textsOk false false ⟨#[]⟩ ls=true by unfold textsOk;simp [e2,ByteArray.size])
     clear hu e1 e2
     go_enter Tryz.func204,Tryz.ntmps204
     go_wp2
     go_ret
     exact ⟨by rw [hr.out];rfl,hb0⟩
    ·have hr:=Lib.hid (show textsOk false true ⟨#[]⟩ ls=false by unfold textsOk;simp [e2,ByteArray.size])
     clear hu e1 e2
     go_enter Tryz.func204,Tryz.ntmps204
     go_wp2
     go_ret
     exact ⟨by rw [hr.out];rfl,hb0⟩
   ·have hr:=Lib.hid (show textsOk true b2 ⟨#[]⟩ ls=false by unfold textsOk;simp [ByteArray.size])
    clear hu e1 e2
    go_enter Tryz.func204,Tryz.ntmps204
    go_wp2
    go_ret
    exact ⟨by rw [hr.out];rfl,hb0⟩
  ·have j2:decide (0<ls.length)=true:=by rw [decide_eq_true_eq];omega
   cases b1
   ·cases b2
    ·have hr:=Lib.hid (show textsOk false false ⟨#[]⟩ ls=false by unfold textsOk;simp [e2,ByteArray.size])
     clear hu e1 e2
     go_enter Tryz.func204,Tryz.ntmps204
     go_wp2
     go_ret
     exact ⟨by rw [hr.out];rfl,hb0⟩
    ·have hr:=Lib.hid (show textsOk false true ⟨#[]⟩ ls=labelsB ls by unfold textsOk;simp [e2,ByteArray.size])
     clear hu e1 e2
     go_enter Tryz.func204,Tryz.ntmps204
     go_wp2_with fail
     refine (HL.out _ hb0).mono ?_
     rintro e w1 ⟨rfl,hb1⟩
     go_wp2
     go_ret
     exact ⟨by rw [hr.out];rfl,hb0.trans (hb1.mono hb0.size)⟩
   ·have hr:=Lib.hid (show textsOk true b2 ⟨#[]⟩ ls=false by unfold textsOk;simp [ByteArray.size])
    clear hu e1 e2
    go_enter Tryz.func204,Tryz.ntmps204
    go_wp2
    go_ret
    exact ⟨by rw [hr.out];rfl,hb0⟩
 ·have hq:(nm.toList == [])=false:=by
   rw [ByteArray.toList_eq]
   obtain ⟨⟨l⟩⟩:=nm
   cases l with
   | nil=>exact absurd rfl e1
   | cons x r=>rfl
  have hq2:(nm.toList != [])=true:=by rw [bne,hq];rfl
  by_cases e2:ls.length=0
  ·have j2:decide (0<ls.length)=false:=by rw [decide_eq_false_iff_not];omega
   cases b1
   ·have hr:=Lib.hid (show textsOk false b2 nm ls=false by unfold textsOk;simp [e1])
    clear hu e1 e2
    go_enter Tryz.func204,Tryz.ntmps204
    go_wp2
    go_ret
    exact ⟨by rw [hr.out];rfl,hb0⟩
   ·cases b2
    ·have hr:=Lib.hid (show textsOk true false nm ls=isNameB nm by unfold textsOk;simp [e1,e2])
     clear hu e1 e2
     go_enter Tryz.func204,Tryz.ntmps204
     go_wp2_with fail
     refine (HI.out _).mono ?_
     rintro e w1 ⟨rfl,hb1⟩
     have p1:=p0.below hb1 p0.lt
     have c3:w1.cell? ⟨w.heap.size,3,none⟩=some (.bool false):=p1.cell 3
     cases hnb:isNameB nm
     ·rw [hnb] at hr
      clear hnb
      go_wp2
      go_ret
      exact ⟨by rw [hr.out];rfl,hb0.trans (hb1.mono hb0.size)⟩
     ·rw [hnb] at hr
      clear hnb
      go_wp2
      go_ret
      exact ⟨by rw [hr.out];rfl,hb0.trans (hb1.mono hb0.size)⟩
    ·have hr:=Lib.hid (show textsOk true true nm ls=false by unfold textsOk;simp [e2])
     clear hu e1 e2
     go_enter Tryz.func204,Tryz.ntmps204
     go_wp2
     go_ret
     exact ⟨by rw [hr.out];rfl,hb0⟩
  ·have j2:decide (0<ls.length)=true:=by rw [decide_eq_true_eq];omega
   cases b1
   ·have hr:=Lib.hid (show textsOk false b2 nm ls=false by unfold textsOk;simp [e1])
    clear hu e1 e2
    go_enter Tryz.func204,Tryz.ntmps204
    go_wp2
    go_ret
    exact ⟨by rw [hr.out];rfl,hb0⟩
   ·cases b2
    ·have hr:=Lib.hid (show textsOk true false nm ls=false by unfold textsOk;simp [e2])
     clear hu e1 e2
     go_enter Tryz.func204,Tryz.ntmps204
     go_wp2
     go_ret
     exact ⟨by rw [hr.out];rfl,hb0⟩
    ·have hr:=Lib.hid (show textsOk true true nm ls=(isNameB nm&&labelsB ls) by unfold textsOk;simp [e1,e2])
     clear hu e1 e2
     go_enter Tryz.func204,Tryz.ntmps204
     go_wp2_with fail
     refine (HI.out _).mono ?_
     rintro e w1 ⟨rfl,hb1⟩
     have hb1':=hb0.trans (hb1.mono hb0.size)
     have p1:=p0.below hb1 p0.lt
     have q1:=q0.below hb1 q0.lt
     have c3:w1.cell? ⟨w.heap.size,3,none⟩=some (.bool true):=p1.cell 3
     have d3:w1.cell? ⟨w.heap.size+1,3,none⟩=some (.slice L ls.length lc):=q1.cell 3
     cases hnb:isNameB nm
     ·rw [hnb] at hr
      clear hnb
      go_wp2
      go_ret
      exact ⟨by rw [hr.out];rfl,hb1'⟩
     ·rw [hnb] at hr
      clear hnb
      go_wp2_with fail
      refine (HL.out _ hb1').mono ?_
      rintro e w2 ⟨rfl,hb2⟩
      go_wp2
      go_ret
      exact ⟨by rw [hr.out];rfl,hb1'.trans (hb2.mono hb1'.size)⟩
def argsOk (b2:Bool) (c d:Int) (n m:Nat):Bool:=(!b2 || decide (m=n))&&(decide (c≤(m:Int))&&decide ((m:Int)≤d))
set_option maxHeartbeats 4000000 in
theorem allowsArgs_any (b1 b2:Bool) (a b c d:Int) (v0 v1 v2:Value) (n m:Nat) (L A:Option Addr) (lc ac:Nat) (w:World):
  Calls Tryz.prog 205 #[.agg #[.int .i64 a,.int .i64 b,.bool b1,.bool b2,.int .i64 c,.int .i64 d],.agg #[v0,v1,v2,.slice L n lc,.slice A m ac]] w (BoolIs (argsOk b2 c d n m) w):=by
 obtain ⟨hb0,p0,q0,hs0⟩:=boxes2 w 232 41 #[.int .i64 a,.int .i64 b,.bool b1,.bool b2,.int .i64 c,.int .i64 d] #[v0,v1,v2,.slice L n lc,.slice A m ac]
 clear hs0
 by_cases h1:c≤(m:Int)
 ·by_cases h2:(m:Int)≤d
  ·cases b2
   ·have hr:=Lib.hid (show argsOk false c d n m=true by unfold argsOk;simp [h1,h2])
    go_enter Tryz.func205,Tryz.ntmps205
    go_wp2
    go_ret
    exact ⟨by rw [hr.out];rfl,hb0⟩
   ·by_cases h3:m=n
    ·have i3:((m:Int) != (n:Int))=false:=by rw [bne_eq_false_iff_eq];omega
     have hr:=Lib.hid (show argsOk true c d n m=true by unfold argsOk;simp [h3];omega)
     clear h3
     go_enter Tryz.func205,Tryz.ntmps205
     go_wp2
     go_ret
     exact ⟨by rw [hr.out];rfl,hb0⟩
    ·have i3:((m:Int) != (n:Int))=true:=by rw [bne_iff_ne];omega
     have hr:=Lib.hid (show argsOk true c d n m=false by unfold argsOk;simp [h3])
     clear h3
     go_enter Tryz.func205,Tryz.ntmps205
     go_wp2
     go_ret
     exact ⟨by rw [hr.out];rfl,hb0⟩
  ·cases b2
   ·have hr:=Lib.hid (show argsOk false c d n m=false by unfold argsOk;simp [h2])
    go_enter Tryz.func205,Tryz.ntmps205
    go_wp2
    go_ret
    exact ⟨by rw [hr.out];rfl,hb0⟩
   ·by_cases h3:m=n
    ·have i3:((m:Int) != (n:Int))=false:=by rw [bne_eq_false_iff_eq];omega
     have hr:=Lib.hid (show argsOk true c d n m=false by unfold argsOk;simp [h2])
     clear h3
     go_enter Tryz.func205,Tryz.ntmps205
     go_wp2
     go_ret
     exact ⟨by rw [hr.out];rfl,hb0⟩
    ·have i3:((m:Int) != (n:Int))=true:=by rw [bne_iff_ne];omega
     have hr:=Lib.hid (show argsOk true c d n m=false by unfold argsOk;simp [h3])
     clear h3
     go_enter Tryz.func205,Tryz.ntmps205
     go_wp2
     go_ret
     exact ⟨by rw [hr.out];rfl,hb0⟩
 ·cases b2
  ·have hr:=Lib.hid (show argsOk false c d n m=false by unfold argsOk;simp [h1])
   go_enter Tryz.func205,Tryz.ntmps205
   go_wp2
   go_ret
   exact ⟨by rw [hr.out];rfl,hb0⟩
  ·by_cases h3:m=n
   ·have i3:((m:Int) != (n:Int))=false:=by rw [bne_eq_false_iff_eq];omega
    have hr:=Lib.hid (show argsOk true c d n m=false by unfold argsOk;simp [h1])
    clear h3
    go_enter Tryz.func205,Tryz.ntmps205
    go_wp2
    go_ret
    exact ⟨by rw [hr.out];rfl,hb0⟩
   ·have i3:((m:Int) != (n:Int))=true:=by rw [bne_iff_ne];omega
    have hr:=Lib.hid (show argsOk true c d n m=false by unfold argsOk;simp [h3])
    clear h3
    go_enter Tryz.func205,Tryz.ntmps205
    go_wp2
    go_ret
    exact ⟨by rw [hr.out];rfl,hb0⟩
theorem node_by_form (k n:Int) (nm:ByteArray) (ls:List ByteArray) (m:Nat) (hn:-9223372036854775808≤n∧n≤9223372036854775807) (hm:m≤maxLen) (a b c d:Int) (b1 b2:Bool) (hk:(k=1∧a=-9223372036854775808∧b=9223372036854775807∧b1=false∧b2=false∧c=0∧d=0)∨(k=2∧a=0∧b=1∧b1=false∧b2=false∧c=0∧d=0)∨(k=3∧a=0∧b=0∧b1=false∧b2=true∧c=1∧d=4)∨(k=4∧a=0∧b=0∧b1=true∧b2=false∧c=1∧d=1)∨(k=5∧a=0∧b=0∧b1=false∧b2=false∧c=0∧d=9223372036854775807)):
  nodeVB k n nm ls m=(decide (a≤n)&&decide (n≤b)&&textsOk b1 b2 nm ls&&argsOk b2 c d ls.length m):=by
 unfold maxLen at hm
 have hlab:labelsB ls=true→1≤ls.length∧ls.length≤4:=fun h=>by
  unfold labelsB at h
  simp only [Bool.and_eq_true,decide_eq_true_eq] at h
  exact h.1.2
 have hnam:=isNameB_size nm
 have hN1:decide (nm.size≠0)=!decide (nm.size=0):=by by_cases e:nm.size=0<;>simp [e]
 have hN2:decide (ls.length≠0)=!decide (ls.length=0):=by by_cases e:ls.length=0<;>simp [e]
 rcases hk with ⟨rfl,rfl,rfl,rfl,rfl,rfl,rfl⟩ | ⟨rfl,rfl,rfl,rfl,rfl,rfl,rfl⟩ | ⟨rfl,rfl,rfl,rfl,rfl,rfl,rfl⟩ | ⟨rfl,rfl,rfl,rfl,rfl,rfl,rfl⟩ | ⟨rfl,rfl,rfl,rfl,rfl,rfl,rfl⟩
 ·by_cases e1:nm.size=0<;>by_cases e2:ls.length=0<;>by_cases e3:m=0
  all_goals simp [nodeVB,textsOk,argsOk,e1,e2,e3,hn.1,hn.2]
 ·by_cases e1:nm.size=0<;>by_cases e2:ls.length=0<;>by_cases e3:m=0<;>by_cases e4:0≤n<;>by_cases e5:n≤1
  all_goals simp [nodeVB,textsOk,argsOk,e1,e2,e3,e4,e5]
 ·have e0:(n=0)↔(0≤n∧n≤0):=by omega
  cases e6:labelsB ls
  ·simp [nodeVB,textsOk,e6]
  ·obtain ⟨l1,l2⟩:=hlab e6
   have l0:ls.length≠0:=by omega
   have l3:ls≠[]:=fun e=>l0 (by rw [e];rfl)
   by_cases e2:m=ls.length
   ·subst e2
    by_cases e1:nm.size=0<;>by_cases e4:0≤n<;>by_cases e5:n≤0
    all_goals simp [nodeVB,textsOk,argsOk,e0,e1,e4,e5,e6,l3]
    all_goals omega
   ·simp [nodeVB,argsOk,e2]
 ·have e0:(n=0)↔(0≤n∧n≤0):=by omega
  have e7:(m=1)↔(1≤m∧m≤1):=by omega
  by_cases e1:nm.size=0<;>by_cases e2:ls.length=0<;>by_cases e3:1≤m<;>by_cases e8:m≤1<;>by_cases e4:0≤n<;>by_cases e5:n≤0<;>cases e6:isNameB nm
  all_goals simp [nodeVB,textsOk,argsOk,e0,e1,e2,e3,e4,e5,e6,e7,e8]
  all_goals (have:=hnam e6;omega)
 ·have e0:(n=0)↔(0≤n∧n≤0):=by omega
  by_cases e1:nm.size=0<;>by_cases e2:ls.length=0<;>by_cases e4:0≤n<;>by_cases e5:n≤0
  all_goals simp [nodeVB,textsOk,argsOk,e0,e1,e2,e4,e5]
  all_goals omega
set_option maxHeartbeats 4000000 in
theorem hasValueForm_any (t:Va) (v:Value) (w:World) (hv:VaAt w w.heap.size v t) (hF:FormsAt w) (hnum:-9223372036854775808≤t.num∧t.num≤9223372036854775807) (hsz:szVa t≤1048576):
  Calls Tryz.prog 189 #[v] w (BoolIs (nodeVB t.kind t.num t.name t.labels t.args.length) w):=by
 have hse:=szVa_eq t
 obtain ⟨L,lc,A,ac,rfl,hnm,hn,hz,hl,ha⟩:=hv.open
 have hm:=ha.1
 have hnl:t.labels.length<maxLen:=by unfold maxLen;omega
 cases t with
 | mk k0 n0 nm ls ts=>
 simp only [Va.kind,Va.num,Va.name,Va.labels,Va.args] at *
 obtain ⟨hb0,p0,hs0⟩:=boxes1 w 41 #[.int .i64 k0,.int .i64 n0,.string nm,.slice L ls.length lc,.slice A ts.length ac]
 have HFA:=Lib.hid hF
 have HLS:=Lib.hid hl
 have HZ:=Lib.hid hz
 clear hv ha hl hz hse hs0
 by_cases hr15:1≤k0∧k0≤5
 ·have hlo:¬ k0<1:=by omega
  have hhi:¬ k0 > 5:=by omega
  have hk:k0=1∨k0=2∨k0=3∨k0=4∨k0=5:=by omega
  clear hr15
  rcases hk with rfl | rfl | rfl | rfl | rfl
  ·clear p0
   obtain ⟨hb2,p2,q2,hs2⟩:=boxes2 w 41 232 #[.int .i64 1,.int .i64 n0,.string nm,.slice L ls.length lc,.slice A ts.length ac] #[.int .i64 (-9223372036854775808),.int .i64 9223372036854775807,.bool false,.bool false,.int .i64 0,.int .i64 0]
   have hnb:=node_by_form 1 n0 nm ls ts.length hnum hm (-9223372036854775808) 9223372036854775807 0 0 false false (by simp)
   have hFw:=HFA.out.below hb0
   have f0:(w.alloc (.cells #[.int .i64 1,.int .i64 n0,.string nm,.slice L ls.length lc,.slice A ts.length ac] 41)).cell? ⟨1,6,none⟩=some (.int .i64 (-9223372036854775808)):=hFw.2 6 (by omega)
   have f1:(w.alloc (.cells #[.int .i64 1,.int .i64 n0,.string nm,.slice L ls.length lc,.slice A ts.length ac] 41)).cell? ⟨1,7,none⟩=some (.int .i64 9223372036854775807):=hFw.2 7 (by omega)
   have f2:(w.alloc (.cells #[.int .i64 1,.int .i64 n0,.string nm,.slice L ls.length lc,.slice A ts.length ac] 41)).cell? ⟨1,8,none⟩=some (.bool false):=hFw.2 8 (by omega)
   have f3:(w.alloc (.cells #[.int .i64 1,.int .i64 n0,.string nm,.slice L ls.length lc,.slice A ts.length ac] 41)).cell? ⟨1,9,none⟩=some (.bool false):=hFw.2 9 (by omega)
   have f4:(w.alloc (.cells #[.int .i64 1,.int .i64 n0,.string nm,.slice L ls.length lc,.slice A ts.length ac] 41)).cell? ⟨1,10,none⟩=some (.int .i64 0):=hFw.2 10 (by omega)
   have f5:(w.alloc (.cells #[.int .i64 1,.int .i64 n0,.string nm,.slice L ls.length lc,.slice A ts.length ac] 41)).cell? ⟨1,11,none⟩=some (.int .i64 0):=hFw.2 11 (by omega)
   have HNB:=Lib.hid hnb
   have HTX:=Lib.hid (allowsTexts_any false false (-9223372036854775808) 9223372036854775807 0 0 1 n0 nm ls ts.length L A lc ac _ (HLS.out.up' hb2) hnm hnl HZ.out)
   clear hnb hFw hs2
   by_cases g1:(-9223372036854775808)≤n0
   ·by_cases g2:n0≤9223372036854775807
    ·have hr:=Lib.hid (show nodeVB 1 n0 nm ls ts.length=(textsOk false false nm ls&&argsOk false 0 0 ls.length ts.length) by rw [HNB.out];simp only [decide_eq_true g1,decide_eq_true g2,Bool.true_and])
     clear HNB
     go_enter Tryz.func189,Tryz.ntmps189
     go_wp2_with fail
     clear f0 f1 f2 f3 f4 f5
     generalize (w.alloc (.cells #[.int .i64 1,.int .i64 n0,.string nm,.slice L ls.length lc,.slice A ts.length ac] 41)).alloc (.cells #[.int .i64 (-9223372036854775808),.int .i64 9223372036854775807,.bool false,.bool false,.int .i64 0,.int .i64 0] 232)=w0 at *
     refine HTX.out.mono ?_
     rintro e w1 ⟨rfl,hb1⟩
     have hb1':=hb2.trans (hb1.mono hb2.size)
     have p3:=p2.below hb1 p2.lt
     have q3:=q2.below hb1 q2.lt
     clear HTX
     obtain ⟨c0,c1,c2,c3,c4⟩:=p3.c5
     have d0:w1.cell? ⟨w.heap.size+1,0,none⟩=some (.int .i64 (-9223372036854775808)):=q3.cell 0
     have d1:w1.cell? ⟨w.heap.size+1,1,none⟩=some (.int .i64 9223372036854775807):=q3.cell 1
     have d2:w1.cell? ⟨w.heap.size+1,2,none⟩=some (.bool false):=q3.cell 2
     have d3:w1.cell? ⟨w.heap.size+1,3,none⟩=some (.bool false):=q3.cell 3
     have d4:w1.cell? ⟨w.heap.size+1,4,none⟩=some (.int .i64 0):=q3.cell 4
     have d5:w1.cell? ⟨w.heap.size+1,5,none⟩=some (.int .i64 0):=q3.cell 5
     cases htx:textsOk false false nm ls
     ·rw [htx,Bool.false_and] at hr
      clear htx
      go_wp2
      go_ret
      exact ⟨by rw [hr.out];rfl,hb1'⟩
     ·rw [htx,Bool.true_and] at hr
      clear htx
      go_wp2_with fail
      refine (allowsArgs_any _ _ _ _ _ _ _ _ _ _ _ _ _ _ _ w1).mono ?_
      rintro e w4 ⟨rfl,hb4⟩
      go_wp2
      go_ret
      exact ⟨by rw [hr.out];rfl,hb1'.trans (hb4.mono hb1'.size)⟩
    ·exact absurd hnum.2 g2
   ·exact absurd hnum.1 g1
  ·clear p0
   obtain ⟨hb2,p2,q2,hs2⟩:=boxes2 w 41 232 #[.int .i64 2,.int .i64 n0,.string nm,.slice L ls.length lc,.slice A ts.length ac] #[.int .i64 0,.int .i64 1,.bool false,.bool false,.int .i64 0,.int .i64 0]
   have hnb:=node_by_form 2 n0 nm ls ts.length hnum hm 0 1 0 0 false false (by simp)
   have hFw:=HFA.out.below hb0
   have f0:(w.alloc (.cells #[.int .i64 2,.int .i64 n0,.string nm,.slice L ls.length lc,.slice A ts.length ac] 41)).cell? ⟨1,12,none⟩=some (.int .i64 0):=hFw.2 12 (by omega)
   have f1:(w.alloc (.cells #[.int .i64 2,.int .i64 n0,.string nm,.slice L ls.length lc,.slice A ts.length ac] 41)).cell? ⟨1,13,none⟩=some (.int .i64 1):=hFw.2 13 (by omega)
   have f2:(w.alloc (.cells #[.int .i64 2,.int .i64 n0,.string nm,.slice L ls.length lc,.slice A ts.length ac] 41)).cell? ⟨1,14,none⟩=some (.bool false):=hFw.2 14 (by omega)
   have f3:(w.alloc (.cells #[.int .i64 2,.int .i64 n0,.string nm,.slice L ls.length lc,.slice A ts.length ac] 41)).cell? ⟨1,15,none⟩=some (.bool false):=hFw.2 15 (by omega)
   have f4:(w.alloc (.cells #[.int .i64 2,.int .i64 n0,.string nm,.slice L ls.length lc,.slice A ts.length ac] 41)).cell? ⟨1,16,none⟩=some (.int .i64 0):=hFw.2 16 (by omega)
   have f5:(w.alloc (.cells #[.int .i64 2,.int .i64 n0,.string nm,.slice L ls.length lc,.slice A ts.length ac] 41)).cell? ⟨1,17,none⟩=some (.int .i64 0):=hFw.2 17 (by omega)
   have HNB:=Lib.hid hnb
   have HTX:=Lib.hid (allowsTexts_any false false 0 1 0 0 2 n0 nm ls ts.length L A lc ac _ (HLS.out.up' hb2) hnm hnl HZ.out)
   clear hnb hFw hs2
   by_cases g1:0≤n0
   ·by_cases g2:n0≤1
    ·have hr:=Lib.hid (show nodeVB 2 n0 nm ls ts.length=(textsOk false false nm ls&&argsOk false 0 0 ls.length ts.length) by rw [HNB.out];simp only [decide_eq_true g1,decide_eq_true g2,Bool.true_and])
     clear HNB
     go_enter Tryz.func189,Tryz.ntmps189
     go_wp2_with fail
     clear f0 f1 f2 f3 f4 f5
     generalize (w.alloc (.cells #[.int .i64 2,.int .i64 n0,.string nm,.slice L ls.length lc,.slice A ts.length ac] 41)).alloc (.cells #[.int .i64 0,.int .i64 1,.bool false,.bool false,.int .i64 0,.int .i64 0] 232)=w0 at *
     refine HTX.out.mono ?_
     rintro e w1 ⟨rfl,hb1⟩
     have hb1':=hb2.trans (hb1.mono hb2.size)
     have p3:=p2.below hb1 p2.lt
     have q3:=q2.below hb1 q2.lt
     clear HTX
     obtain ⟨c0,c1,c2,c3,c4⟩:=p3.c5
     have d0:w1.cell? ⟨w.heap.size+1,0,none⟩=some (.int .i64 0):=q3.cell 0
     have d1:w1.cell? ⟨w.heap.size+1,1,none⟩=some (.int .i64 1):=q3.cell 1
     have d2:w1.cell? ⟨w.heap.size+1,2,none⟩=some (.bool false):=q3.cell 2
     have d3:w1.cell? ⟨w.heap.size+1,3,none⟩=some (.bool false):=q3.cell 3
     have d4:w1.cell? ⟨w.heap.size+1,4,none⟩=some (.int .i64 0):=q3.cell 4
     have d5:w1.cell? ⟨w.heap.size+1,5,none⟩=some (.int .i64 0):=q3.cell 5
     cases htx:textsOk false false nm ls
     ·rw [htx,Bool.false_and] at hr
      clear htx
      go_wp2
      go_ret
      exact ⟨by rw [hr.out];rfl,hb1'⟩
     ·rw [htx,Bool.true_and] at hr
      clear htx
      go_wp2_with fail
      refine (allowsArgs_any _ _ _ _ _ _ _ _ _ _ _ _ _ _ _ w1).mono ?_
      rintro e w4 ⟨rfl,hb4⟩
      go_wp2
      go_ret
      exact ⟨by rw [hr.out];rfl,hb1'.trans (hb4.mono hb1'.size)⟩
    ·have hr:=Lib.hid (show nodeVB 2 n0 nm ls ts.length=false by rw [HNB.out];simp [g2])
     clear HNB
     go_enter Tryz.func189,Tryz.ntmps189
     go_wp2
     go_ret
     exact ⟨by rw [hr.out];rfl,hb2⟩
   ·have hr:=Lib.hid (show nodeVB 2 n0 nm ls ts.length=false by rw [HNB.out];simp [g1])
    clear HNB
    go_enter Tryz.func189,Tryz.ntmps189
    go_wp2
    go_ret
    exact ⟨by rw [hr.out];rfl,hb2⟩
  ·clear p0
   obtain ⟨hb2,p2,q2,hs2⟩:=boxes2 w 41 232 #[.int .i64 3,.int .i64 n0,.string nm,.slice L ls.length lc,.slice A ts.length ac] #[.int .i64 0,.int .i64 0,.bool false,.bool true,.int .i64 1,.int .i64 4]
   have hnb:=node_by_form 3 n0 nm ls ts.length hnum hm 0 0 1 4 false true (by simp)
   have hFw:=HFA.out.below hb0
   have f0:(w.alloc (.cells #[.int .i64 3,.int .i64 n0,.string nm,.slice L ls.length lc,.slice A ts.length ac] 41)).cell? ⟨1,18,none⟩=some (.int .i64 0):=hFw.2 18 (by omega)
   have f1:(w.alloc (.cells #[.int .i64 3,.int .i64 n0,.string nm,.slice L ls.length lc,.slice A ts.length ac] 41)).cell? ⟨1,19,none⟩=some (.int .i64 0):=hFw.2 19 (by omega)
   have f2:(w.alloc (.cells #[.int .i64 3,.int .i64 n0,.string nm,.slice L ls.length lc,.slice A ts.length ac] 41)).cell? ⟨1,20,none⟩=some (.bool false):=hFw.2 20 (by omega)
   have f3:(w.alloc (.cells #[.int .i64 3,.int .i64 n0,.string nm,.slice L ls.length lc,.slice A ts.length ac] 41)).cell? ⟨1,21,none⟩=some (.bool true):=hFw.2 21 (by omega)
   have f4:(w.alloc (.cells #[.int .i64 3,.int .i64 n0,.string nm,.slice L ls.length lc,.slice A ts.length ac] 41)).cell? ⟨1,22,none⟩=some (.int .i64 1):=hFw.2 22 (by omega)
   have f5:(w.alloc (.cells #[.int .i64 3,.int .i64 n0,.string nm,.slice L ls.length lc,.slice A ts.length ac] 41)).cell? ⟨1,23,none⟩=some (.int .i64 4):=hFw.2 23 (by omega)
   have HNB:=Lib.hid hnb
   have HTX:=Lib.hid (allowsTexts_any false true 0 0 1 4 3 n0 nm ls ts.length L A lc ac _ (HLS.out.up' hb2) hnm hnl HZ.out)
   clear hnb hFw hs2
   by_cases g1:0≤n0
   ·by_cases g2:n0≤0
    ·have hr:=Lib.hid (show nodeVB 3 n0 nm ls ts.length=(textsOk false true nm ls&&argsOk true 1 4 ls.length ts.length) by rw [HNB.out];simp only [decide_eq_true g1,decide_eq_true g2,Bool.true_and])
     clear HNB
     go_enter Tryz.func189,Tryz.ntmps189
     go_wp2_with fail
     clear f0 f1 f2 f3 f4 f5
     generalize (w.alloc (.cells #[.int .i64 3,.int .i64 n0,.string nm,.slice L ls.length lc,.slice A ts.length ac] 41)).alloc (.cells #[.int .i64 0,.int .i64 0,.bool false,.bool true,.int .i64 1,.int .i64 4] 232)=w0 at *
     refine HTX.out.mono ?_
     rintro e w1 ⟨rfl,hb1⟩
     have hb1':=hb2.trans (hb1.mono hb2.size)
     have p3:=p2.below hb1 p2.lt
     have q3:=q2.below hb1 q2.lt
     clear HTX
     obtain ⟨c0,c1,c2,c3,c4⟩:=p3.c5
     have d0:w1.cell? ⟨w.heap.size+1,0,none⟩=some (.int .i64 0):=q3.cell 0
     have d1:w1.cell? ⟨w.heap.size+1,1,none⟩=some (.int .i64 0):=q3.cell 1
     have d2:w1.cell? ⟨w.heap.size+1,2,none⟩=some (.bool false):=q3.cell 2
     have d3:w1.cell? ⟨w.heap.size+1,3,none⟩=some (.bool true):=q3.cell 3
     have d4:w1.cell? ⟨w.heap.size+1,4,none⟩=some (.int .i64 1):=q3.cell 4
     have d5:w1.cell? ⟨w.heap.size+1,5,none⟩=some (.int .i64 4):=q3.cell 5
     cases htx:textsOk false true nm ls
     ·rw [htx,Bool.false_and] at hr
      clear htx
      go_wp2
      go_ret
      exact ⟨by rw [hr.out];rfl,hb1'⟩
     ·rw [htx,Bool.true_and] at hr
      clear htx
      go_wp2_with fail
      refine (allowsArgs_any _ _ _ _ _ _ _ _ _ _ _ _ _ _ _ w1).mono ?_
      rintro e w4 ⟨rfl,hb4⟩
      go_wp2
      go_ret
      exact ⟨by rw [hr.out];rfl,hb1'.trans (hb4.mono hb1'.size)⟩
    ·have hr:=Lib.hid (show nodeVB 3 n0 nm ls ts.length=false by rw [HNB.out];simp [g2])
     clear HNB
     go_enter Tryz.func189,Tryz.ntmps189
     go_wp2
     go_ret
     exact ⟨by rw [hr.out];rfl,hb2⟩
   ·have hr:=Lib.hid (show nodeVB 3 n0 nm ls ts.length=false by rw [HNB.out];simp [g1])
    clear HNB
    go_enter Tryz.func189,Tryz.ntmps189
    go_wp2
    go_ret
    exact ⟨by rw [hr.out];rfl,hb2⟩
  ·clear p0
   obtain ⟨hb2,p2,q2,hs2⟩:=boxes2 w 41 232 #[.int .i64 4,.int .i64 n0,.string nm,.slice L ls.length lc,.slice A ts.length ac] #[.int .i64 0,.int .i64 0,.bool true,.bool false,.int .i64 1,.int .i64 1]
   have hnb:=node_by_form 4 n0 nm ls ts.length hnum hm 0 0 1 1 true false (by simp)
   have hFw:=HFA.out.below hb0
   have f0:(w.alloc (.cells #[.int .i64 4,.int .i64 n0,.string nm,.slice L ls.length lc,.slice A ts.length ac] 41)).cell? ⟨1,24,none⟩=some (.int .i64 0):=hFw.2 24 (by omega)
   have f1:(w.alloc (.cells #[.int .i64 4,.int .i64 n0,.string nm,.slice L ls.length lc,.slice A ts.length ac] 41)).cell? ⟨1,25,none⟩=some (.int .i64 0):=hFw.2 25 (by omega)
   have f2:(w.alloc (.cells #[.int .i64 4,.int .i64 n0,.string nm,.slice L ls.length lc,.slice A ts.length ac] 41)).cell? ⟨1,26,none⟩=some (.bool true):=hFw.2 26 (by omega)
   have f3:(w.alloc (.cells #[.int .i64 4,.int .i64 n0,.string nm,.slice L ls.length lc,.slice A ts.length ac] 41)).cell? ⟨1,27,none⟩=some (.bool false):=hFw.2 27 (by omega)
   have f4:(w.alloc (.cells #[.int .i64 4,.int .i64 n0,.string nm,.slice L ls.length lc,.slice A ts.length ac] 41)).cell? ⟨1,28,none⟩=some (.int .i64 1):=hFw.2 28 (by omega)
   have f5:(w.alloc (.cells #[.int .i64 4,.int .i64 n0,.string nm,.slice L ls.length lc,.slice A ts.length ac] 41)).cell? ⟨1,29,none⟩=some (.int .i64 1):=hFw.2 29 (by omega)
   have HNB:=Lib.hid hnb
   have HTX:=Lib.hid (allowsTexts_any true false 0 0 1 1 4 n0 nm ls ts.length L A lc ac _ (HLS.out.up' hb2) hnm hnl HZ.out)
   clear hnb hFw hs2
   by_cases g1:0≤n0
   ·by_cases g2:n0≤0
    ·have hr:=Lib.hid (show nodeVB 4 n0 nm ls ts.length=(textsOk true false nm ls&&argsOk false 1 1 ls.length ts.length) by rw [HNB.out];simp only [decide_eq_true g1,decide_eq_true g2,Bool.true_and])
     clear HNB
     go_enter Tryz.func189,Tryz.ntmps189
     go_wp2_with fail
     clear f0 f1 f2 f3 f4 f5
     generalize (w.alloc (.cells #[.int .i64 4,.int .i64 n0,.string nm,.slice L ls.length lc,.slice A ts.length ac] 41)).alloc (.cells #[.int .i64 0,.int .i64 0,.bool true,.bool false,.int .i64 1,.int .i64 1] 232)=w0 at *
     refine HTX.out.mono ?_
     rintro e w1 ⟨rfl,hb1⟩
     have hb1':=hb2.trans (hb1.mono hb2.size)
     have p3:=p2.below hb1 p2.lt
     have q3:=q2.below hb1 q2.lt
     clear HTX
     obtain ⟨c0,c1,c2,c3,c4⟩:=p3.c5
     have d0:w1.cell? ⟨w.heap.size+1,0,none⟩=some (.int .i64 0):=q3.cell 0
     have d1:w1.cell? ⟨w.heap.size+1,1,none⟩=some (.int .i64 0):=q3.cell 1
     have d2:w1.cell? ⟨w.heap.size+1,2,none⟩=some (.bool true):=q3.cell 2
     have d3:w1.cell? ⟨w.heap.size+1,3,none⟩=some (.bool false):=q3.cell 3
     have d4:w1.cell? ⟨w.heap.size+1,4,none⟩=some (.int .i64 1):=q3.cell 4
     have d5:w1.cell? ⟨w.heap.size+1,5,none⟩=some (.int .i64 1):=q3.cell 5
     cases htx:textsOk true false nm ls
     ·rw [htx,Bool.false_and] at hr
      clear htx
      go_wp2
      go_ret
      exact ⟨by rw [hr.out];rfl,hb1'⟩
     ·rw [htx,Bool.true_and] at hr
      clear htx
      go_wp2_with fail
      refine (allowsArgs_any _ _ _ _ _ _ _ _ _ _ _ _ _ _ _ w1).mono ?_
      rintro e w4 ⟨rfl,hb4⟩
      go_wp2
      go_ret
      exact ⟨by rw [hr.out];rfl,hb1'.trans (hb4.mono hb1'.size)⟩
    ·have hr:=Lib.hid (show nodeVB 4 n0 nm ls ts.length=false by rw [HNB.out];simp [g2])
     clear HNB
     go_enter Tryz.func189,Tryz.ntmps189
     go_wp2
     go_ret
     exact ⟨by rw [hr.out];rfl,hb2⟩
   ·have hr:=Lib.hid (show nodeVB 4 n0 nm ls ts.length=false by rw [HNB.out];simp [g1])
    clear HNB
    go_enter Tryz.func189,Tryz.ntmps189
    go_wp2
    go_ret
    exact ⟨by rw [hr.out];rfl,hb2⟩
  ·clear p0
   obtain ⟨hb2,p2,q2,hs2⟩:=boxes2 w 41 232 #[.int .i64 5,.int .i64 n0,.string nm,.slice L ls.length lc,.slice A ts.length ac] #[.int .i64 0,.int .i64 0,.bool false,.bool false,.int .i64 0,.int .i64 9223372036854775807]
   have hnb:=node_by_form 5 n0 nm ls ts.length hnum hm 0 0 0 9223372036854775807 false false (by simp)
   have hFw:=HFA.out.below hb0
   have f0:(w.alloc (.cells #[.int .i64 5,.int .i64 n0,.string nm,.slice L ls.length lc,.slice A ts.length ac] 41)).cell? ⟨1,30,none⟩=some (.int .i64 0):=hFw.2 30 (by omega)
   have f1:(w.alloc (.cells #[.int .i64 5,.int .i64 n0,.string nm,.slice L ls.length lc,.slice A ts.length ac] 41)).cell? ⟨1,31,none⟩=some (.int .i64 0):=hFw.2 31 (by omega)
   have f2:(w.alloc (.cells #[.int .i64 5,.int .i64 n0,.string nm,.slice L ls.length lc,.slice A ts.length ac] 41)).cell? ⟨1,32,none⟩=some (.bool false):=hFw.2 32 (by omega)
   have f3:(w.alloc (.cells #[.int .i64 5,.int .i64 n0,.string nm,.slice L ls.length lc,.slice A ts.length ac] 41)).cell? ⟨1,33,none⟩=some (.bool false):=hFw.2 33 (by omega)
   have f4:(w.alloc (.cells #[.int .i64 5,.int .i64 n0,.string nm,.slice L ls.length lc,.slice A ts.length ac] 41)).cell? ⟨1,34,none⟩=some (.int .i64 0):=hFw.2 34 (by omega)
   have f5:(w.alloc (.cells #[.int .i64 5,.int .i64 n0,.string nm,.slice L ls.length lc,.slice A ts.length ac] 41)).cell? ⟨1,35,none⟩=some (.int .i64 9223372036854775807):=hFw.2 35 (by omega)
   have HNB:=Lib.hid hnb
   have HTX:=Lib.hid (allowsTexts_any false false 0 0 0 9223372036854775807 5 n0 nm ls ts.length L A lc ac _ (HLS.out.up' hb2) hnm hnl HZ.out)
   clear hnb hFw hs2
   by_cases g1:0≤n0
   ·by_cases g2:n0≤0
    ·have hr:=Lib.hid (show nodeVB 5 n0 nm ls ts.length=(textsOk false false nm ls&&argsOk false 0 9223372036854775807 ls.length ts.length) by rw [HNB.out];simp only [decide_eq_true g1,decide_eq_true g2,Bool.true_and])
     clear HNB
     go_enter Tryz.func189,Tryz.ntmps189
     go_wp2_with fail
     clear f0 f1 f2 f3 f4 f5
     generalize (w.alloc (.cells #[.int .i64 5,.int .i64 n0,.string nm,.slice L ls.length lc,.slice A ts.length ac] 41)).alloc (.cells #[.int .i64 0,.int .i64 0,.bool false,.bool false,.int .i64 0,.int .i64 9223372036854775807] 232)=w0 at *
     refine HTX.out.mono ?_
     rintro e w1 ⟨rfl,hb1⟩
     have hb1':=hb2.trans (hb1.mono hb2.size)
     have p3:=p2.below hb1 p2.lt
     have q3:=q2.below hb1 q2.lt
     clear HTX
     obtain ⟨c0,c1,c2,c3,c4⟩:=p3.c5
     have d0:w1.cell? ⟨w.heap.size+1,0,none⟩=some (.int .i64 0):=q3.cell 0
     have d1:w1.cell? ⟨w.heap.size+1,1,none⟩=some (.int .i64 0):=q3.cell 1
     have d2:w1.cell? ⟨w.heap.size+1,2,none⟩=some (.bool false):=q3.cell 2
     have d3:w1.cell? ⟨w.heap.size+1,3,none⟩=some (.bool false):=q3.cell 3
     have d4:w1.cell? ⟨w.heap.size+1,4,none⟩=some (.int .i64 0):=q3.cell 4
     have d5:w1.cell? ⟨w.heap.size+1,5,none⟩=some (.int .i64 9223372036854775807):=q3.cell 5
     cases htx:textsOk false false nm ls
     ·rw [htx,Bool.false_and] at hr
      clear htx
      go_wp2
      go_ret
      exact ⟨by rw [hr.out];rfl,hb1'⟩
     ·rw [htx,Bool.true_and] at hr
      clear htx
      go_wp2_with fail
      refine (allowsArgs_any _ _ _ _ _ _ _ _ _ _ _ _ _ _ _ w1).mono ?_
      rintro e w4 ⟨rfl,hb4⟩
      go_wp2
      go_ret
      exact ⟨by rw [hr.out];rfl,hb1'.trans (hb4.mono hb1'.size)⟩
    ·have hr:=Lib.hid (show nodeVB 5 n0 nm ls ts.length=false by rw [HNB.out];simp [g2])
     clear HNB
     go_enter Tryz.func189,Tryz.ntmps189
     go_wp2
     go_ret
     exact ⟨by rw [hr.out];rfl,hb2⟩
   ·have hr:=Lib.hid (show nodeVB 5 n0 nm ls ts.length=false by rw [HNB.out];simp [g1])
    clear HNB
    go_enter Tryz.func189,Tryz.ntmps189
    go_wp2
    go_ret
    exact ⟨by rw [hr.out];rfl,hb2⟩
 ·have hr:=Lib.hid (nodeVB_other k0 n0 nm ls ts.length (by omega) (by omega) (by omega) (by omega) (by omega))
  by_cases hlo:k0<1
  ·clear hr15
   go_enter Tryz.func189,Tryz.ntmps189
   go_wp2
   go_ret
   exact ⟨by rw [hr.out];rfl,hb0⟩
  ·have hhi:k0 > 5:=by omega
   clear hr15
   go_enter Tryz.func189,Tryz.ntmps189
   go_wp2
   go_ret
   exact ⟨by rw [hr.out];rfl,hb0⟩
end
end Go.Proofs.YtfnblkcmcfofoaaGreatDoor
section
namespace Go.Proofs.YtfnblkcmcfofoaaGreatDoor.V
open Go.RowKit
theorem pl_size:(Tryz.prog.info? 41).map (fun i=>i.size)=some 5:=by kernel_rfl
theorem run_pl_part1 (w:World) (a b:Value):(part 3 #[a,b] 1).run Tryz.prog w=.ok b w:=by
 simp [part,run_isAgg_plain w 3 _ Tryz.underlying3 rfl,Result.andThen]
theorem run_sizeOf_ty (w:World):∃ n,n≠0∧(sizeOf 41).run Tryz.prog w=.ok n w:=by
 have h:=pl_size
 cases hi:Tryz.prog.info? 41 with
 | none=>rw [hi] at h;cases h
 | some i=>
  rw [hi] at h
  simp at h
  exact ⟨i.size,by omega,by simp [sizeOf,typeInfo,hi,Result.andThen]⟩
end Go.Proofs.YtfnblkcmcfofoaaGreatDoor.V
end
