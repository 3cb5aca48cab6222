/- Lemmas: SpecDef3, SpecDef, Smalls, HasLaws, SpecOt. -/
import Derived.Test.YtfnblkcmcfofoaaGreatDoorLawFoci_13
import Derived.Deep.DeepCutAuto
import Derived.Test.YtfnblkcmcfofoaaGreatDoorLawFoci_12
import Derived.Test.YtfnblkcmcfofoaaGreatDoorLawFoci_3
import Derived.Test.YtfnblkcmcfofoaaGreatDoorLawFoci_4
import Derived.Test.YtfnblkcmcfofoaaGreatDoorLawFoci_6
import Derived.Test.YtfnblkcmcfofoaaGreatDoorLawFoci_8

namespace Go.Proofs.YtfnblkcmcfofoaaGreatDoor
section
set_option maxRecDepth 100000
open Go.RowKit
attribute [local go_sem ↓] Go.wp_at_zero Go.wp_at_succ
end
section
set_option maxRecDepth 100000
open Go.RowKit
attribute [local go_sem ↓] Go.wp_at_zero Go.wp_at_succ
end
section
open Go.RowKit
end
section
open Go.RowKit
theorem hasZip_at:∀ (vs:List Va) (ts:List Ty),hasZip vs ts=true→∀ i,(h1:i<vs.length)→(h2:i<ts.length)→hasB vs[i] ts[i]=true:=by
 intro vs ts h i h1 h2
 cases hb:hasB vs[i] ts[i] with
 | true=>rfl
 | false=>rw [hasZip_no vs ts i h1 h2 hb] at h;cases h
theorem formVas_at':∀ (ts:List Va),formVas ts=true→∀ i,(h:i<ts.length)→formVa ts[i]=true
 | t::r,h,0,_=>by
  rw [formVas,Bool.and_eq_true] at h
  exact h.1
 | t::r,h,i+1,hi=>by
  rw [formVas,Bool.and_eq_true] at h
  exact formVas_at' r h.2 i (by simpa using hi)
theorem formTys_at':∀ (ts:List Ty),formTys ts=true→∀ i,(h:i<ts.length)→formTy ts[i]=true
 | t::r,h,0,_=>by
  rw [formTys,Bool.and_eq_true] at h
  exact h.1
 | t::r,h,i+1,hi=>by
  rw [formTys,Bool.and_eq_true] at h
  exact formTys_at' r h.2 i (by simpa using hi)
theorem hasTypeB_parts {v:Va} {t:Ty} (h:hasTypeB v t=true):valueB v=true∧validB t=true∧hasB v t=true:=by
 unfold hasTypeB at h
 simp only [Bool.and_eq_true] at h
 exact ⟨h.1.1,h.1.2,h.2⟩
end
section
open Go.RowKit
mutual
def sizeOt:Ot→Nat | .mk _ _ _ ts=>1+sizeOts ts
def sizeOts:List Ot→Nat | []=>0 | t::r=>sizeOt t+sizeOts r
end
theorem sizeOt_eq (t:Ot):sizeOt t=1+sizeOts t.args:=by cases t;rw [sizeOt];rfl
theorem sizeOts_append:∀ (a b:List Ot),sizeOts (a++b)=sizeOts a+sizeOts b
 | [],b=>by simp [sizeOts]
 | t::a,b=>by
  rw [List.cons_append,sizeOts,sizeOts,sizeOts_append a b]
  omega
theorem sizeOts_take (ts:List Ot) (k:Nat) (h:k<ts.length):sizeOts (ts.take (k+1))=sizeOts (ts.take k)+sizeOt ts[k]:=by
 rw [List.take_succ_eq_append_getElem h,sizeOts_append,sizeOts,sizeOts]
 omega
theorem sizeOts_le (ts:List Ot) (k:Nat):sizeOts (ts.take k)≤sizeOts ts:=by
 have h:=sizeOts_append (ts.take k) (ts.drop k)
 rw [List.take_append_drop] at h
 omega
mutual
theorem size_le_szO:∀ (t:Ot),sizeOt t≤szOt t+1
 | .mk _ _ _ ts=>by
  rw [sizeOt,szOt]
  have:=sizes_le_szOs ts
  omega
theorem sizes_le_szOs:∀ (ts:List Ot),sizeOts ts≤szOts ts
 | []=>Nat.le_refl _
 | t::r=>by
  rw [sizeOts,szOts]
  have:=size_le_szO t
  have:=sizes_le_szOs r
  omega
end
mutual
def depthOt:Ot→Nat | .mk _ _ _ ts=>depthOts ts+1
def depthOts:List Ot→Nat | []=>0 | t::r=>max (depthOt t) (depthOts r)
end
theorem depthOt_eq (t:Ot):depthOt t=depthOts t.args+1:=by cases t;rw [depthOt];rfl
theorem depthOts_append:∀ (a b:List Ot),depthOts (a++b)=max (depthOts a) (depthOts b)
 | [],b=>by simp [depthOts]
 | t::a,b=>by
  rw [List.cons_append,depthOts,depthOts,depthOts_append a b]
  omega
theorem depthOts_take (ts:List Ot) (k:Nat) (h:k<ts.length):depthOts (ts.take (k+1))=max (depthOts (ts.take k)) (depthOt ts[k]):=by
 rw [List.take_succ_eq_append_getElem h,depthOts_append,depthOts,depthOts]
 omega
mutual
theorem depth_le_sizeO:∀ (t:Ot),depthOt t≤sizeOt t
 | .mk _ _ _ ts=>by
  rw [depthOt,sizeOt]
  have:=depths_le_sizesO ts
  omega
theorem depths_le_sizesO:∀ (ts:List Ot),depthOts ts≤sizeOts ts
 | []=>Nat.le_refl _
 | t::r=>by
  rw [depthOts,sizeOts]
  have:=depth_le_sizeO t
  have:=depths_le_sizesO r
  omega
end
def DepthOOne (f:Nat) (t:Ot):Prop:=∀ (v:Value) (w:World),OtAt w w.heap.size v t→sizeOt t≤2000000→Calls Tryz.prog f #[v] w (IntBelow (depthOt t) w)
set_option maxHeartbeats 1000000 in
theorem specDepthO_of (k0 n0:Int) (nm:ByteArray) (ts:List Ot) (hall:∀ i,(h:i<ts.length)→DepthOOne 63 ts[i]):DepthOOne 63 (.mk k0 n0 nm ts):=by
 intro v w hv hsz
 have hse:=Lib.hid (depthOt_eq (.mk k0 n0 nm ts))
 have hse2:sizeOts ts≤2000000:=by have:=sizeOt_eq (.mk k0 n0 nm ts);simp only [Ot.args] at this;omega
 obtain ⟨A,ac,rfl,_,ha⟩:=hv.open
 simp only [Ot.kind,Ot.num,Ot.name,Ot.args] at *
 have hm:=ha.1
 unfold maxLen at hm
 have HALL:=Lib.hid hall
 clear hall hv
 obtain ⟨hb0,p0,hs0⟩:=boxes1 w 30 #[.int .i64 k0,.string nm,.int .i64 n0,.slice A ts.length ac]
 have ha0:=ha.up hb0
 have HZ:=Lib.hid hs0
 clear ha hs0
 go_enter Tryz.func63,Tryz.ntmps63
 go_wp2
 generalize w.alloc (.cells #[.int .i64 k0,.string nm,.int .i64 n0,.slice A ts.length ac] 30)=w0 at *
 have hpl:=p0.lt
 go_loopw [3,4] (fun n i wr=>∃ k d:Nat,k≤ts.length∧i=.int .i64 k∧n=.int .i64 (d:Int)∧Hid (d=depthOts (ts.take k))∧d≤2000000∧Below w0.heap.size w0 wr) (fun _ i _=>ts.length - (intOf i).toNat)
 case atStart=>exact ⟨0,0,Nat.zero_le _,rfl,rfl,Lib.hid (by simp [depthOts]),by omega,Below.refl _ _⟩
 case round=>
  obtain ⟨k,d,hk,rfl,rfl,hd,hdl,hb⟩:=hrel
  have p1:=p0.below hb hpl
  have c2:wr.cell? ⟨w.heap.size,3,none⟩=some (.slice A ts.length ac):=p1.cell 3
  by_cases hlt:k<ts.length
  ·obtain ⟨b,off,A1,ac1,rfl,hbl,q0,q1,q2,q3,ht⟩:=(ha0.below hb).elem k hlt
   have hst:=Lib.hid (depthOts_take ts k hlt)
   have hle:=sizeOts_le ts (k+1)
   have hst2:=Lib.hid (sizeOts_take ts k hlt)
   have hb3:sizeOt ts[k]≤2000000:=by have:=hst2.out;omega
   have hb4:=depth_le_sizeO ts[k]
   have HT:=Lib.hid (HALL.out k hlt _ wr (ht.more hb.size) hb3)
   clear ht p1
   go_wp2_with fail
   refine HT.out.mono ?_
   rintro e w1 ⟨rfl,hb1⟩
   go_wp2_with fail
   refine (l1Max_any (d:Int) (depthOt ts[k]:Int) w1).mono ?_
   rintro e w2 ⟨rfl,rfl⟩
   rw [show max (d:Int) (depthOt ts[k]:Int)=((max d (depthOt ts[k]):Nat):Int) by omega]
   go_wp2
   go_roundw
   case rel=>exact ⟨k+1,max d (depthOt ts[k]),by omega,by go_num,rfl,Lib.hid (by rw [hst.out,hd.out]),by omega,hb.trans (hb1.mono hb.size)⟩
   case measure=>simp [intOf];omega
  ·have hke:k=ts.length:=by omega
   subst hke
   rw [List.take_length] at hd
   go_wp2
   go_ret
   exact ⟨by rw [hse.out,← hd.out];rfl,hb0.trans (hb.mono hb0.size)⟩
theorem specDepthO_any (t:Ot):DepthOOne 63 t:=by
 induction t using Ot.ind with
 | h k n nm ts ih=>exact specDepthO_of k n nm ts ih
def LeftOOne (f:Nat) (t:Ot):Prop:=∀ (v:Value) (left:Int) (w:World),OtAt w w.heap.size v t→0≤left→left≤1000000→Calls Tryz.prog f #[v,.int .i64 left] w (IntBelow (leftOf left (sizeOt t)) w)
set_option maxHeartbeats 1000000 in
theorem specLeftO_of (k0 n0:Int) (nm:ByteArray) (ts:List Ot) (hall:∀ i,(h:i<ts.length)→LeftOOne 62 ts[i]):LeftOOne 62 (.mk k0 n0 nm ts):=by
 intro v left w hv h0 h1
 have hse:=Lib.hid (sizeOt_eq (.mk k0 n0 nm ts))
 obtain ⟨A,ac,rfl,_,ha⟩:=hv.open
 simp only [Ot.kind,Ot.num,Ot.name,Ot.args] at *
 have hm:=ha.1
 unfold maxLen at hm
 have HALL:=Lib.hid hall
 clear hall hv
 obtain ⟨hb0,p0,hs0⟩:=boxes1 w 30 #[.int .i64 k0,.string nm,.int .i64 n0,.slice A ts.length ac]
 have ha0:=ha.up hb0
 have HZ:=Lib.hid hs0
 clear ha hs0
 go_enter Tryz.func62,Tryz.ntmps62
 go_wp2
 generalize w.alloc (.cells #[.int .i64 k0,.string nm,.int .i64 n0,.slice A ts.length ac] 30)=w0 at *
 have hpl:=p0.lt
 go_loopw [1,5] (fun n i wr=>∃ (k:Nat) (x:Int),k≤ts.length∧i=.int .i64 k∧n=.int .i64 x∧Hid (x=leftOf left (1+sizeOts (ts.take k)))∧x≤1000000∧-1≤x∧Below w0.heap.size w0 wr) (fun _ i _=>ts.length - (intOf i).toNat)
 case atStart=>exact ⟨0,left - 1,Nat.zero_le _,rfl,rfl,Lib.hid (by simp only [List.take_zero,sizeOts,leftOf];split<;>omega),by omega,by omega,Below.refl _ _⟩
 case round=>
  obtain ⟨k,x,hk,rfl,rfl,hx,hxl,hxm,hb⟩:=hrel
  have p1:=p0.below hb hpl
  have c2:wr.cell? ⟨w.heap.size,3,none⟩=some (.slice A ts.length ac):=p1.cell 3
  by_cases hlt:k<ts.length
  ·by_cases hx0:0≤x
   ·obtain ⟨b,off,A1,ac1,rfl,hbl,q0,q1,q2,q3,ht⟩:=(ha0.below hb).elem k hlt
    have hst2:=Lib.hid (sizeOts_take ts k hlt)
    have hdx:decide ((0:Int)≤x)=true:=by simp;omega
    have hlk:decide ((k:Int)<(ts.length:Int))=true:=by simp;omega
    have HT:=Lib.hid (HALL.out k hlt _ x wr (ht.more hb.size) hx0 hxl)
    have hle:=leftOf_le x (sizeOt ts[k]) hx0
    have hcs:=leftOf_cases x (sizeOt ts[k])
    have hnx:Hid (leftOf x (sizeOt ts[k])=leftOf left (1+sizeOts (ts.take (k+1)))):=Lib.hid (by
     have hxe:=hx.out
     rw [hst2.out,hxe,leftOf_step _ _ _ (by rw [← hxe];exact hx0),Nat.add_assoc])
    clear ht p1
    go_wp2_with fail
    refine HT.out.mono ?_
    rintro e w1 ⟨rfl,hb1⟩
    generalize leftOf x (sizeOt ts[k])=y at *
    go_wp2
    go_roundw
    case rel=>exact ⟨k+1,y,by omega,by go_num,rfl,hnx,by omega,by omega,hb.trans (hb1.mono hb.size)⟩
    case measure=>simp [intOf];omega
   ·have hxe:x=-1:=by omega
    have hr:=Lib.hid (show leftOf left (sizeOt (.mk k0 n0 nm ts))=-1 by
     rw [hse.out]
     have:=hx.out
     exact leftOf_neg _ _ _ (by rw [← this];exact hxe) (by have:=sizeOts_le ts k;omega))
    subst hxe
    clear hx0
    go_wp2
    go_ret
    exact ⟨by rw [hr.out];rfl,hb0.trans (hb.mono hb0.size)⟩
  ·have hke:k=ts.length:=by omega
   subst hke
   rw [List.take_length] at hx
   go_wp2
   go_ret
   exact ⟨by rw [hse.out,← hx.out];rfl,hb0.trans (hb.mono hb0.size)⟩
theorem specLeftO_any (t:Ot):LeftOOne 62 t:=by
 induction t using Ot.ind with
 | h k n nm ts ih=>exact specLeftO_of k n nm ts ih
end
end Go.Proofs.YtfnblkcmcfofoaaGreatDoor
