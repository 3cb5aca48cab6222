/- Lemmas: SpecVa, SpecNames. -/
import Derived.Test.YtfnblkcmcfofoaaGreatDoorLawFoci_4
import Derived.Test.YtfnblkcmcfofoaaGreatDoorLawFoci_6
import Derived.Test.YtfnblkcmcfofoaaGreatDoorLawFoci_8
import Derived.Test.YtfnblkcmcfofoaaGreatDoorProg
import Derived.Test.YtfnblkcmcfofoaaGreatDoorLawFoci_1
import Derived.BigGuard
import Derived.WalkLawsBesides

namespace Go.Proofs.YtfnblkcmcfofoaaGreatDoor
section
open Go.RowKit
mutual
def sizeVa:Va→Nat | .mk _ _ _ _ ts=>1+sizeVas ts
def sizeVas:List Va→Nat | []=>0 | t::r=>sizeVa t+sizeVas r
end
theorem sizeVa_eq (t:Va):sizeVa t=1+sizeVas t.args:=by cases t;rw [sizeVa];rfl
theorem sizeVas_append:∀ (a b:List Va),sizeVas (a++b)=sizeVas a+sizeVas b
 | [],b=>by simp [sizeVas]
 | t::a,b=>by
  rw [List.cons_append,sizeVas,sizeVas,sizeVas_append a b]
  omega
theorem sizeVas_take (ts:List Va) (k:Nat) (h:k<ts.length):sizeVas (ts.take (k+1))=sizeVas (ts.take k)+sizeVa ts[k]:=by
 rw [List.take_succ_eq_append_getElem h,sizeVas_append,sizeVas,sizeVas]
 omega
theorem sizeVas_le (ts:List Va) (k:Nat):sizeVas (ts.take k)≤sizeVas ts:=by
 have h:=sizeVas_append (ts.take k) (ts.drop k)
 rw [List.take_append_drop] at h
 omega
mutual
def depthVa:Va→Nat | .mk _ _ _ _ ts=>depthVas ts+1
def depthVas:List Va→Nat | []=>0 | t::r=>max (depthVa t) (depthVas r)
end
def LeftVOne (f:Nat) (t:Va):Prop:=∀ (v:Value) (left:Int) (w:World),VaAt w w.heap.size v t→0≤left→left≤1000000→Calls Tryz.prog f #[v,.int .i64 left] w (IntBelow (leftOf left (sizeVa t)) w)
set_option maxHeartbeats 1000000 in
theorem specLeftV_of (k0 n0:Int) (nm:ByteArray) (ls:List ByteArray) (ts:List Va) (hall:∀ i,(h:i<ts.length)→LeftVOne 73 ts[i]):LeftVOne 73 (.mk k0 n0 nm ls ts):=by
 intro v left w hv h0 h1
 have hse:=Lib.hid (sizeVa_eq (.mk k0 n0 nm ls ts))
 obtain ⟨L,lc,A,ac,rfl,_,_,_,_,ha⟩:=hv.open
 simp only [Va.kind,Va.num,Va.name,Va.labels,Va.args] at *
 have hm:=ha.1
 unfold maxLen at hm
 have HALL:=Lib.hid hall
 clear hall hv
 obtain ⟨hb0,p0,hs0⟩:=boxes1 w 41 #[.int .i64 k0,.int .i64 n0,.string nm,.slice L ls.length lc,.slice A ts.length ac]
 have ha0:=ha.up hb0
 have HZ:=Lib.hid hs0
 clear ha hs0
 go_enter Tryz.func73,Tryz.ntmps73
 go_wp2
 generalize w.alloc (.cells #[.int .i64 k0,.int .i64 n0,.string nm,.slice L ls.length lc,.slice A ts.length ac] 41)=w0 at *
 have hpl:=p0.lt
 go_loopw [1,5] (fun n i wr=>∃ (k:Nat) (x:Int),k≤ts.length∧i=.int .i64 k∧n=.int .i64 x∧Hid (x=leftOf left (1+sizeVas (ts.take k)))∧x≤1000000∧-1≤x∧Below w0.heap.size w0 wr) (fun _ i _=>ts.length - (intOf i).toNat)
 case atStart=>exact ⟨0,left - 1,Nat.zero_le _,rfl,rfl,Lib.hid (by simp only [List.take_zero,sizeVas,leftOf];split<;>omega),by omega,by omega,Below.refl _ _⟩
 case round=>
  obtain ⟨k,x,hk,rfl,rfl,hx,hxl,hxm,hb⟩:=hrel
  have p1:=p0.below hb hpl
  have c2:wr.cell? ⟨w.heap.size,4,none⟩=some (.slice A ts.length ac):=p1.cell 4
  by_cases hlt:k<ts.length
  ·by_cases hx0:0≤x
   ·obtain ⟨b,off,L1,lc1,A1,ac1,rfl,hbl,q0,q1,q2,q3,q4,ht⟩:=(ha0.below hb).elem k hlt
    have hst2:=Lib.hid (sizeVas_take ts k hlt)
    have hdx:decide ((0:Int)≤x)=true:=by simp;omega
    have hlk:decide ((k:Int)<(ts.length:Int))=true:=by simp;omega
    have HT:=Lib.hid (HALL.out k hlt _ x wr (ht.more hb.size) hx0 hxl)
    have hle:=leftOf_le x (sizeVa ts[k]) hx0
    have hcs:=leftOf_cases x (sizeVa ts[k])
    have hnx:Hid (leftOf x (sizeVa ts[k])=leftOf left (1+sizeVas (ts.take (k+1)))):=Lib.hid (by
     have hxe:=hx.out
     rw [hst2.out,hxe,leftOf_step _ _ _ (by rw [← hxe];exact hx0),Nat.add_assoc])
    clear ht p1
    go_wp2_with fail
    refine HT.out.mono ?_
    rintro e w1 ⟨rfl,hb1⟩
    generalize leftOf x (sizeVa ts[k])=y at *
    go_wp2
    go_roundw
    case rel=>exact ⟨k+1,y,by omega,by go_num,rfl,hnx,by omega,by omega,hb.trans (hb1.mono hb.size)⟩
    case measure=>simp [intOf];omega
   ·have hxe:x=-1:=by omega
    have hr:=Lib.hid (show leftOf left (sizeVa (.mk k0 n0 nm ls ts))=-1 by
     rw [hse.out]
     have:=hx.out
     exact leftOf_neg _ _ _ (by rw [← this];exact hxe) (by have:=sizeVas_le ts k;omega))
    subst hxe
    clear hx0
    go_wp2
    go_ret
    exact ⟨by rw [hr.out];rfl,hb0.trans (hb.mono hb0.size)⟩
  ·have hke:k=ts.length:=by omega
   subst hke
   rw [List.take_length] at hx
   go_wp2
   go_ret
   exact ⟨by rw [hse.out,← hx.out];rfl,hb0.trans (hb.mono hb0.size)⟩
theorem specLeftV_any (t:Va):LeftVOne 73 t:=by
 induction t using Va.ind with
 | h k n nm ls ts ih=>exact specLeftV_of k n nm ls ts ih
end
end Go.Proofs.YtfnblkcmcfofoaaGreatDoor
section
namespace Go.Proofs.YtfnblkcmcfofoaaGreatDoor
open Go.RowKit
def nameAt (k:Nat) (c:UInt8):Bool:=(decide (97≤c.toNat)&&decide (c.toNat≤122)) || (decide (0<k)&&decide (48≤c.toNat)&&decide (c.toNat≤57))
def isNameB (s:ByteArray):Bool:=(List.range s.size).all (fun k=>nameAt k (s.data.getD k 0))&&decide (1≤s.size)&&decide (s.size≤4)
theorem isNameB_no (s:ByteArray) (k:Nat) (h:k<s.size) (hn:nameAt k (s.data.getD k 0)=false):isNameB s=false:=by
 unfold isNameB
 have:(List.range s.size).all (fun k=>nameAt k (s.data.getD k 0))=false:=by
  rw [List.all_eq_false]
  exact ⟨k,List.mem_range.2 h,by rw [hn];simp⟩
 rw [this]
 rfl
theorem isNameB_all (s:ByteArray) (h:∀ k,k<s.size→nameAt k (s.data.getD k 0)=true):isNameB s=(decide (1≤s.size)&&decide (s.size≤4)):=by
 unfold isNameB
 have:(List.range s.size).all (fun k=>nameAt k (s.data.getD k 0))=true:=by
  rw [List.all_eq_true]
  exact fun k hk=>h k (List.mem_range.1 hk)
 rw [this]
 rfl
set_option maxHeartbeats 1000000 in
theorem specIsName_any (s:ByteArray) (w:World) (hs:s.size≤maxLen):
  Calls Tryz.prog 115 #[.string s] w fun e w'=>e=.returned (.bool (isNameB s))∧w=w':=by
 unfold maxLen at hs
 go_enter Tryz.func115,Tryz.ntmps115
 go_wp2
 go_loop [3] (fun i=>∃ k:Nat,k≤s.size∧i=.int .i64 k∧∀ j,j<k→nameAt j (s.data.getD j 0)=true) (fun i=>s.size - (intOf i).toNat)
 case atStart=>exact ⟨0,Nat.zero_le _,rfl,fun j h=>absurd h (by omega)⟩
 case round=>
  obtain ⟨k,hk,rfl,hall⟩:=hrel
  have HA:=Lib.hid hall
  clear hall
  by_cases hlt:k<s.size
  ·have hltI:(k:Int)<(s.size:Int):=by omega
   have hget:=Lib.hid (show s.data.getD k 0=s[k] by
    rw [Array.getD_eq_getD_getElem?,Array.getElem?_eq_getElem hlt];rfl)
   by_cases h97:97≤s[k].toNat
   ·by_cases h122:s[k].toNat≤122
    ·have i1:(97:Int)≤s[k].toNat:=by omega
     have i2:(s[k].toNat:Int)≤122:=by omega
     go_wp2
     go_round
     case rel=>
      refine ⟨k+1,by omega,by go_num,fun j hj=>?_⟩
      by_cases e:j=k
      ·subst e
       rw [hget.out]
       simp [nameAt,h97,h122]
      ·exact HA.out j (by omega)
     case measure=>simp [intOf];omega
    ·have i1:(97:Int)≤s[k].toNat:=by omega
     have i2:¬ (s[k].toNat:Int)≤122:=by omega
     have i3:¬ (s[k].toNat:Int)<48:=by omega
     have i4:(57:Int)<s[k].toNat:=by omega
     have hno:=Lib.hid (isNameB_no s k hlt (by rw [hget.out];simp [nameAt,h122,show ¬ s[k].toNat≤57 by omega]))
     go_wp2
     all_goals
      go_ret
      refine ⟨?_,rfl⟩
      rw [hno.out]
      rfl
   ·by_cases hk0:0<k
    ·by_cases h48:s[k].toNat<48
     ·have i1:¬ (97:Int)≤s[k].toNat:=by omega
      have i0:((k:Int) == 0)=false:=by rw [beq_eq_false_iff_ne];omega
      have i3:(s[k].toNat:Int)<48:=by omega
      have hno:=Lib.hid (isNameB_no s k hlt (by rw [hget.out];simp [nameAt,h97,show ¬ 48≤s[k].toNat by omega]))
      go_wp2
      all_goals
       go_ret
       refine ⟨?_,rfl⟩
       rw [hno.out]
       rfl
     ·by_cases h57:s[k].toNat≤57
      ·have i1:¬ (97:Int)≤s[k].toNat:=by omega
       have i0:((k:Int) == 0)=false:=by rw [beq_eq_false_iff_ne];omega
       have i3:¬ (s[k].toNat:Int)<48:=by omega
       have i4:¬ (57:Int)<s[k].toNat:=by omega
       go_wp2
       go_round
       case rel=>
        refine ⟨k+1,by omega,by go_num,fun j hj=>?_⟩
        by_cases e:j=k
        ·subst e
         rw [hget.out]
         simp [nameAt,hk0,h57,show 48≤s[j].toNat by omega]
        ·exact HA.out j (by omega)
       case measure=>simp [intOf];omega
      ·have i1:¬ (97:Int)≤s[k].toNat:=by omega
       have i0:((k:Int) == 0)=false:=by rw [beq_eq_false_iff_ne];omega
       have i3:¬ (s[k].toNat:Int)<48:=by omega
       have i4:(57:Int)<s[k].toNat:=by omega
       have hno:=Lib.hid (isNameB_no s k hlt (by rw [hget.out];simp [nameAt,h97,h57]))
       go_wp2
       all_goals
        go_ret
        refine ⟨?_,rfl⟩
        rw [hno.out]
        rfl
    ·have i1:¬ (97:Int)≤s[k].toNat:=by omega
     have i0:((k:Int) == 0)=true:=by rw [beq_iff_eq];omega
     have hno:=Lib.hid (isNameB_no s k hlt (by rw [hget.out];simp [nameAt,h97,hk0]))
     go_wp2
     all_goals
      go_ret
      refine ⟨?_,rfl⟩
      rw [hno.out]
      rfl
  ·have hltI:¬ (k:Int)<(s.size:Int):=by omega
   have hke:k=s.size:=by omega
   have hB:=Lib.hid (isNameB_all s (fun j hj=>HA.out j (by omega)))
   clear hke
   by_cases h1:1≤s.size
   ·by_cases h4:s.size≤4
    ·have i1:(1:Int)≤s.size:=by omega
     have i4:(s.size:Int)≤4:=by omega
     go_wp2
     go_ret
     refine ⟨?_,rfl⟩
     rw [hB.out]
     simp [h1,h4]
    ·have i1:(1:Int)≤s.size:=by omega
     have i4:¬ (s.size:Int)≤4:=by omega
     go_wp2
     go_ret
     refine ⟨?_,rfl⟩
     rw [hB.out]
     simp [h4]
   ·have i1:¬ (1:Int)≤s.size:=by omega
    go_wp2
    go_ret
    refine ⟨?_,rfl⟩
    rw [hB.out]
    simp [h1]
end Go.Proofs.YtfnblkcmcfofoaaGreatDoor
namespace Go.Proofs.YtfnblkcmcfofoaaGreatDoor
open Go.RowKit
def idxOf (ss:List ByteArray) (s:ByteArray):Int:=
 match (List.range ss.length).find? (fun k=>(ss.getD k ⟨#[]⟩).data.toList == s.data.toList) with
 | some k=>(k:Int)
 | none=>-1
theorem idxOf_at (ss:List ByteArray) (s:ByteArray) (k:Nat) (h:k<ss.length) (he:ss[k].data.toList=s.data.toList) (hn:∀ j,(hj:j<ss.length)→j<k→ss[j].data.toList≠s.data.toList):idxOf ss s=k:=by
 unfold idxOf
 have:(List.range ss.length).find? (fun k=>(ss.getD k ⟨#[]⟩).data.toList == s.data.toList)=some k:=by
  rw [List.find?_range_eq_some]
  refine ⟨?_,List.mem_range.2 h,fun j hj=>?_⟩
  ·simp [h,he]
  ·have hl:j<ss.length:=by omega
   simp [hl]
   exact fun e=>hn j hl hj (by rw [e])
 rw [this]
theorem idxOf_none (ss:List ByteArray) (s:ByteArray) (hn:∀ j,(hj:j<ss.length)→ss[j].data.toList≠s.data.toList):idxOf ss s=-1:=by
 unfold idxOf
 have:(List.range ss.length).find? (fun k=>(ss.getD k ⟨#[]⟩).data.toList == s.data.toList)=none:=by
  rw [List.find?_eq_none]
  intro j hj
  have hl:=List.mem_range.1 hj
  simp [hl]
  exact fun e=>hn j hl (by rw [e])
 rw [this]
set_option maxHeartbeats 1000000 in
theorem specIndexOf_any (A:Option Addr) (c B:Nat) (ss:List ByteArray) (s:ByteArray) (w:World) (hA:StrsAt w B A ss) (hn:ss.length≤maxLen):
  Calls Tryz.prog 129 #[.slice A ss.length c,.string s] w fun e w'=>e=.returned (.int .i64 (idxOf ss s))∧w=w':=by
 unfold maxLen at hn
 go_enter Tryz.func129,Tryz.ntmps129
 go_wp2
 go_loop [5] (fun i=>∃ k:Nat,k≤ss.length∧i=.int .i64 k∧∀ j,(hj:j<ss.length)→j<k→ss[j].data.toList≠s.data.toList) (fun i=>ss.length - (intOf i).toNat)
 case atStart=>exact ⟨0,Nat.zero_le _,rfl,fun j _ h=>absurd h (by omega)⟩
 case round=>
  obtain ⟨k,hk,rfl,hall⟩:=hrel
  have HA:=Lib.hid hall
  clear hall
  by_cases hlt:k<ss.length
  ·have hltI:(k:Int)<(ss.length:Int):=by omega
   obtain ⟨b,off,rfl,_,hcell⟩:=hA k hlt
   by_cases he:ss[k].data.toList=s.data.toList
   ·have hd:=Lib.hid (idxOf_at ss s k hlt he HA.out)
    have hq:(ss[k].toList == s.toList)=true:=by rw [beq_iff_eq,ByteArray.toList_eq,ByteArray.toList_eq];exact he
    clear he
    go_wp2
    go_ret
    exact ⟨by rw [hd.out];rfl,rfl⟩
   ·have hq:(ss[k].toList == s.toList)=false:=by rw [beq_eq_false_iff_ne,ByteArray.toList_eq,ByteArray.toList_eq];exact he
    have HE:=Lib.hid he
    clear he
    go_wp2
    go_round
    case rel=>
     refine ⟨k+1,by omega,by go_num,fun j hj h=>?_⟩
     by_cases e:j=k
     ·subst e
      exact HE.out
     ·exact HA.out j hj (by omega)
    case measure=>simp [intOf];omega
  ·have hltI:¬ (k:Int)<(ss.length:Int):=by omega
   have hd:=Lib.hid (idxOf_none ss s (fun j hj=>HA.out j hj (by omega)))
   go_wp2
   go_ret
   exact ⟨by rw [hd.out];rfl,rfl⟩
def lessB (s t:ByteArray):Bool:=Op.bytesLess s.data.toList t.data.toList
def ascB (ss:List ByteArray):Bool:=(List.range (ss.length - 1)).all fun k=>lessB (ss.getD k ⟨#[]⟩) (ss.getD (k+1) ⟨#[]⟩)
theorem ascB_no (ss:List ByteArray) (k:Nat) (h1:1≤k) (h:k<ss.length) (hn:lessB (ss[k - 1]'(by omega)) ss[k]=false):ascB ss=false:=by
 unfold ascB
 rw [List.all_eq_false]
 refine ⟨k - 1,List.mem_range.2 (by omega),?_⟩
 have e:k - 1+1=k:=by omega
 rw [e]
 simp [h,show k - 1<ss.length by omega,hn]
theorem ascB_yes (ss:List ByteArray) (h:∀ k,(hk:k<ss.length)→1≤k→lessB (ss[k - 1]'(by omega)) ss[k]=true):ascB ss=true:=by
 unfold ascB
 rw [List.all_eq_true]
 intro k hk
 have hl:=List.mem_range.1 hk
 have:=h (k+1) (by omega) (by omega)
 simp only [Nat.add_sub_cancel] at this
 simp [show k<ss.length by omega,show k+1<ss.length by omega,this]
def BoolDrew (b:Bool) (w:World) (e:Ending) (w':World):Prop:=e=.returned (.bool b)∧∃ n,w'=w.drewN n
set_option maxHeartbeats 1000000 in
theorem specAreAscending_any (A:Option Addr) (c B:Nat) (ss:List ByteArray) (w:World) (hA:StrsAt w B A ss) (hn:ss.length<maxLen):
  Calls Tryz.prog 171 #[.slice A ss.length c] w (BoolDrew (ascB ss) w):=by
 unfold maxLen at hn
 go_enter Tryz.func171,Tryz.ntmps171
 go_wp2
 go_loopw [3] (fun i wr=>∃ k:Nat,k≤ss.length+1∧1≤k∧i=.int .i64 k∧(∀ j,(hj:j<ss.length)→1≤j→j<k→lessB (ss[j - 1]'(by omega)) ss[j]=true)∧∃ n,wr=w.drewN n) (fun i _=>ss.length - (intOf i).toNat)
 case atStart=>exact ⟨1,by omega,by omega,rfl,fun j _ h1 h2=>absurd h2 (by omega),0,rfl⟩
 case round=>
  obtain ⟨k,hk,hk1,rfl,hall,n,rfl⟩:=hrel
  have HA:=Lib.hid hall
  clear hall
  by_cases hlt:k<ss.length
  ·have hltI:(k:Int)<(ss.length:Int):=by omega
   obtain ⟨b,off,rfl,_,hcell⟩:=hA k hlt
   obtain ⟨b',off',e',_,hcell'⟩:=hA (k - 1) (by omega)
   cases e'
   cases hles:lessB (ss[k - 1]'(by omega)) ss[k]
   ·have hd:=Lib.hid (ascB_no ss k hk1 hlt hles)
    have hq:(!Op.bytesLess (ss[k - 1]'(by omega)).toList ss[k].toList)=true:=by
     rw [ByteArray.toList_eq,ByteArray.toList_eq,show Op.bytesLess _ _=false from hles]
     rfl
    clear hles
    go_wp2
    go_quiet (fail)
    go_wp2
    go_ret
    exact ⟨by rw [hd.out];rfl,_,World.drewN_drewN _ _ _⟩
   ·have hq:(!Op.bytesLess (ss[k - 1]'(by omega)).toList ss[k].toList)=false:=by
     rw [ByteArray.toList_eq,ByteArray.toList_eq,show Op.bytesLess _ _=true from hles]
     rfl
    have HE:=Lib.hid hles
    clear hles
    go_wp2
    go_quiet (fail)
    go_wp2
    go_roundw
    case rel=>
     refine ⟨k+1,by omega,by omega,by go_num,fun j hj h1 h2=>?_,_,rfl⟩
     by_cases e:j=k
     ·subst e
      exact HE.out
     ·exact HA.out j hj h1 (by omega)
    case measure=>simp [intOf];omega
  ·have hltI:¬ (k:Int)<(ss.length:Int):=by omega
   have hd:=Lib.hid (ascB_yes ss (fun j hj h1=>HA.out j hj h1 (by omega)))
   go_wp2
   go_ret
   exact ⟨by rw [hd.out];rfl,n,rfl⟩
end Go.Proofs.YtfnblkcmcfofoaaGreatDoor
end
