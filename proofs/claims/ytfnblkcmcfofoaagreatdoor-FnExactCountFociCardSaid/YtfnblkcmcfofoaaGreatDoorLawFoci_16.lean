/- Lemmas: OType, Labeled. -/
import Derived.Test.YtfnblkcmcfofoaaGreatDoorLawFoci_15
import Derived.Test.YtfnblkcmcfofoaaGreatDoorLawFoci_5
import Derived.Test.YtfnblkcmcfofoaaGreatDoorLawFoci_13

namespace Go.Proofs.YtfnblkcmcfofoaaGreatDoor
section
open Go.RowKit
def isKindB (k:Int):Bool:=decide (1≤k∧k≤5)
def withinB (a b:Int):Bool:=isKindB a&&isKindB b&&(decide (a=b) || decide (a=1) || decide (b=5) || (decide (b=4)&&decide (a<b)))
def joinI (a b:Int):Int:=if isKindB a&&isKindB b then (if withinB a b then b else if withinB b a then a else 4) else 0
theorem five {k:Int} (h:isKindB k=true):k=1∨k=2∨k=3∨k=4∨k=5:=by
 have:=of_decide_eq_true h
 omega
theorem withinB_kinds {a b:Int} (h:withinB a b=true):isKindB a=true∧isKindB b=true:=by
 unfold withinB at h
 simp only [Bool.and_eq_true] at h
 exact h.1
theorem joinI_comm (a b:Int):joinI a b=joinI b a:=by
 by_cases ha:isKindB a=true
 ·by_cases hb:isKindB b=true
  ·rcases five ha with rfl | rfl | rfl | rfl | rfl<;>rcases five hb with rfl | rfl | rfl | rfl | rfl<;>rfl
  ·have hb':isKindB b=false:=by simpa using hb
   simp [joinI,hb']
 ·have ha':isKindB a=false:=by simpa using ha
  simp [joinI,ha']
theorem joinI_none {a b:Int} (h:(isKindB a&&isKindB b)=false):joinI a b=0:=by simp [joinI,h]
noncomputable def leafO (k:Int) (nm:ByteArray) (s:Ty):Option (Ty×Int):=
 if k=1 then some (s,1)
 else if k=2 then (if s.kind=3 then (partB s nm).map (·,2) else none)
 else if k=3 then (if s.kind=4 then (partB s nm).map (·,3) else none)
 else if k=4 then (if s.kind=5 then s.args[0]?.map (·,5) else none)
 else if k=5 then (if uniformB s then s.args[0]?.map (·,5) else none)
 else if k=6 then (if s.kind=5 then s.args[0]?.map (·,4) else none)
 else if k=7 then (if s.kind=1 then some (s,1) else none)
 else if k=8 then (if s.kind=2 then some (s,1) else none)
 else if k=9 then (if s.kind=5 then some (s,1) else none)
 else if k=10 then some (.mk 3 [nm] [s],1)
 else none
def thenO (f g:Ty→Option (Ty×Int)) (s:Ty):Option (Ty×Int):=
 match f s with
 | none=>none
 | some (a,one)=>match g a with
  | none=>none
  | some (b,two)=>some (b,joinI one two)
noncomputable def elseO (f g:Ty→Option (Ty×Int)) (s:Ty):Option (Ty×Int):=
 match f s with
 | none=>none
 | some (a,one)=>match g s with
  | none=>none
  | some (b,two)=>if (withinB one 4&&withinB two 4&&eqTyB a b)=true then some (a,4) else none
def mapO (f:Ty→Option (Ty×Int)) (s:Ty):Option (Ty×Int):=
 if s.kind=5 then
  match s.args[0]? with
  | none=>none
  | some e=>match f e with
   | none=>none
   | some (t,kd)=>if kd=1 then some (.mk 5 [] [t],1) else none
 else none
noncomputable def nodeTyO (k:Int) (nm:ByteArray) (fs:List (Ty→Option (Ty×Int))) (s:Ty):Option (Ty×Int):=
 if k=12 then (match fs with | [f,g]=>thenO f g s | _=>none)
 else if k=13 then (match fs with | [f,g]=>elseO f g s | _=>none)
 else if k=11 then (match fs with | [f]=>mapO f s | _=>none)
 else leafO k nm s
def goodO (p:Option (Ty×Int)):Option (Ty×Int):=
 match p with
 | none=>none
 | some (t,kd)=>if validB t then some (t,kd) else none
mutual
noncomputable def typeO:Ot→Ty→Option (Ty×Int) | .mk k _ nm ts=>fun s=>goodO (nodeTyO k nm (typeOs ts) s)
noncomputable def typeOs:List Ot→List (Ty→Option (Ty×Int)) | []=>[] | t::r=>typeO t::typeOs r
end
noncomputable def opticTypeB (s:Ty) (o:Ot):Option (Ty×Int):=if (validB s&&opticB o)=true then typeO o s else none
theorem goodO_valid {p:Option (Ty×Int)} {t:Ty} {kd:Int} (h:goodO p=some (t,kd)):p=some (t,kd)∧validB t=true:=by
 cases p with
 | none=>simp [goodO] at h
 | some q=>
  obtain ⟨t',kd'⟩:=q
  by_cases hv:validB t'=true
  ·simp only [goodO,hv,if_true,Option.some.injEq,Prod.mk.injEq] at h
   obtain ⟨rfl,rfl⟩:=h
   exact ⟨rfl,hv⟩
  ·have hv':validB t'=false:=by simpa using hv
   simp [goodO,hv'] at h
theorem typeO_valid {o:Ot} {s t:Ty} {kd:Int} (h:typeO o s=some (t,kd)):validB t=true:=by
 cases o with
 | mk k n nm ts=>
  rw [typeO] at h
  exact (goodO_valid h).2
theorem sumSizes_names:∀ (ls:List ByteArray),ls.all isNameB=true→sumSizes ls≤4 * ls.length
 | [],_=>by simp [sumSizes]
 | l::r,h=>by
  simp only [List.all_cons,Bool.and_eq_true] at h
  have h0:l.size≤4:=by
   have h1:=h.1
   unfold isNameB at h1
   simp only [Bool.and_eq_true,decide_eq_true_eq] at h1
   exact h1.2
  have h2:=sumSizes_names r h.2
  simp only [sumSizes,List.map_cons,List.sum_cons,List.length_cons] at h2 ⊢
  omega
theorem nodeB_sizes {k:Int} {ls:List ByteArray} {m:Nat} (h:nodeB k ls m=true):ls.length+sumSizes ls≤20:=by
 have hz:ls.length=0→ls.length+sumSizes ls≤20:=fun h0=>by
  have:ls=[]:=List.length_eq_zero_iff.1 h0
  subst this
  simp [sumSizes]
 unfold nodeB at h
 split at h
 ·simp only [Bool.and_eq_true,decide_eq_true_eq] at h
  exact hz h.1
 ·split at h
  ·rw [Bool.and_eq_true] at h
   have h2:=h.2
   unfold labelsB at h2
   simp only [Bool.and_eq_true,decide_eq_true_eq] at h2
   have h3:=sumSizes_names ls h2.1.1
   omega
  ·split at h
   ·simp only [Bool.and_eq_true,decide_eq_true_eq] at h
    exact hz h.1
   ·cases h
mutual
theorem szTy_form:∀ (t:Ty),formTy t=true→szTy t+1≤22 * sizeTy t
 | .mk k ls ts,h=>by
  rw [formTy,Bool.and_eq_true] at h
  have h1:=szTys_form ts h.1
  have h2:=nodeB_sizes h.2
  rw [szTy,sizeTy]
  omega
theorem szTys_form:∀ (ts:List Ty),formTys ts=true→szTys ts≤22 * sizeTys ts
 | [],_=>by simp [szTys]
 | t::r,h=>by
  rw [formTys,Bool.and_eq_true] at h
  have h1:=szTy_form t h.1
  have h2:=szTys_form r h.2
  rw [szTys,sizeTys]
  omega
end
theorem szTy_valid {t:Ty} (h:validB t=true):szTy t≤660:=by
 unfold validB at h
 simp only [Bool.and_eq_true,decide_eq_true_eq] at h
 have:=szTy_form t h.2
 omega
end
end Go.Proofs.YtfnblkcmcfofoaaGreatDoor
section
namespace Go.Proofs.YtfnblkcmcfofoaaGreatDoor
open Go.RowKit
theorem own_base {w:World} {base base' size k:Nat} {e:TypeId} {v:Value} {xs:List Value} (h:w.ownsRow base' e size v k xs) (hb:base≤base'):w.ownsRow base e size v k xs:=
 ⟨h.1,h.2.imp id fun ⟨g,cap,cur,h1,h2,h3⟩=>⟨g,cap,cur,h1,Nat.le_trans hb h2,h3⟩⟩
theorem GatherAt.base {w:World} {base base' k:Nat} {v:Value} {ts:List Ty} {xs:List Value} {vs:Nat→Value} {lo hi:Nat→Nat} (h:GatherAt w base' v k ts xs vs lo hi) (hb:base≤base'):GatherAt w base v k ts xs vs lo hi:=
 ⟨own_base h.own hb,h.cells,fun i hi'=>⟨Nat.le_trans hb (h.low i hi').1,(h.low i hi').2⟩,h.apart,h.free,h.kids⟩
def OwnTy (w:World) (base:Nat) (v:Value) (t:Ty):Prop:=
 ∃ L lc A ac xs vs lo hi,v=.agg #[.int .i64 t.kind,.slice L t.labels.length lc,.slice A t.args.length ac]∧(∀ i,(h:i<t.labels.length)→t.labels[i].size≤maxLen)∧t.args.length≤maxLen∧
  w.ownsRow base 9 1 (.slice L t.labels.length lc) t.labels.length (strVals t.labels)∧GatherAt w base (.slice A t.args.length ac) t.args.length t.args xs vs lo hi∧
  ∀ gl,L=some ⟨gl,0,none⟩→A≠some ⟨gl,0,none⟩∧∀ i,i<t.args.length→¬ Span (lo i) (hi i) gl
theorem own_len {w:World} {base k:Nat} {e:TypeId} {v:Value} {xs:List Value} (h:w.ownsRow base e 1 v k xs):k≤maxLen:=by
 rcases h.2 with ⟨_,h2⟩ | ⟨g,cap,cur,h1,h2,h3,h4,h5,_⟩
 ·omega
 ·omega
theorem OwnTy.owned {w:World} {base:Nat} {v:Value} {t:Ty} (h:OwnTy w base v t):TyIn w (Span base w.heap.size) v t:=by
 obtain ⟨L,lc,A,ac,xs,vs,lo,hi,rfl,hz,hm,hl,hg,hap⟩:=h
 have hn:=own_len hl
 have hdone:=Gather.done ⟨xs,vs,lo,hi,hg⟩ hm
 rcases RowStrs.of_own hl with ⟨h1,h2⟩ | ⟨g,cap,h1,h2,h3⟩
 ·obtain ⟨hd0,ga,vs',Ss,d1,d2,d3,d4⟩:=hdone
  refine TyIn.of (gl:=w.heap.size) hn hz (.inl h2) (Sa:=Span base w.heap.size) ⟨hd0,ga,vs',Ss,d1,d2,d3,d4⟩ fun b hb=>⟨hb,by have:=hb.2;omega⟩
 ·have e1:L=some ⟨g,0,none⟩:=by injection h1
  have hgl:=h3.lt
  have hsub:TysIn w (fun b=>Span base w.heap.size b∧b≠g) A t.args:=by
   obtain ⟨hAg,hsp⟩:=hap g e1
   rcases hg.own.2 with ⟨_,k2⟩ | ⟨ga,cap2,cur,k1,k2,k3,k4,k5,k6,k7⟩
   ·have ht:t.args=[]:=List.length_eq_zero_iff.1 k2
    refine ⟨hm,0,vs,fun _ _=>False,.inl ht,fun i hi=>?_,fun i _ hi=>?_,fun i hi=>?_⟩
    all_goals rw [ht] at hi;simp at hi
   ·have e2:A=some ⟨ga,0,none⟩:=by injection k1
    have hgal:=(hg.own.lt ga (by rw [e2];rfl)).2
    refine ⟨hm,ga,vs,fun i=>Span (lo i) (hi i),.inr ⟨e2,⟨⟨k2,hgal⟩,fun e=>hAg (by rw [e2,e])⟩,cur,k3,fun i hi' j hj=>?_⟩,fun i hi' b hb=>⟨⟨⟨?_,?_⟩,fun e=>hsp i hi' (by rw [← e];exact hb)⟩,fun e=>hg.free i hi' ga (by rw [e2];rfl) (by rw [← e];exact hb)⟩,?_,fun i hi'=>hg.kids i hi' hi'⟩
    ·have hc:=hg.cells i hi' j hj
     refine ⟨hc.1,?_⟩
     rw [← hc.2,← k7,List.getElem?_take,if_pos (by omega)]
     simp
    ·have:=(hg.low i hi').1
     have:=hb.1
     omega
    ·have:=(hg.low i hi').2
     have:=hb.2
     omega
    ·intro i j hi' hj hne b hb hb'
     have:=hb.1
     have:=hb.2
     have:=hb'.1
     have:=hb'.2
     rcases Nat.lt_or_gt_of_ne hne with hlt | hlt
     ·have:=hg.apart i j hlt hj
      omega
     ·have:=hg.apart j i hlt hi'
      omega
  exact TyIn.of (gl:=g) hn hz (.inr ⟨e1,⟨h2,hgl⟩,h3⟩) hsub fun b hb=>hb
theorem OwnTy.keep {w w':World} {base:Nat} {v:Value} {t:Ty} (h:OwnTy w base v t) (hs:w.heap.size≤w'.heap.size) (hk:∀ g,base≤g→g<w.heap.size→w'.heap[g]?=w.heap[g]?):OwnTy w' base v t:=by
 obtain ⟨L,lc,A,ac,xs,vs,lo,hi,hv,hz,hm,hl,hg,hap⟩:=h
 refine ⟨L,lc,A,ac,xs,vs,lo,hi,hv,hz,hm,⟨hl.1,?_⟩,hg.keep hs hk,hap⟩
 rcases hl.2 with h2 | ⟨g,cap,cur,h1,h2,h3,h4⟩
 ·exact .inl h2
 ·exact .inr ⟨g,cap,cur,h1,h2,(hk g h2 (Whole1.lt (t:=9) (cs:=cur) h3)).trans h3,h4⟩
theorem OwnTy.base {w:World} {base base':Nat} {v:Value} {t:Ty} (h:OwnTy w base' v t) (hb:base≤base'):OwnTy w base v t:=by
 obtain ⟨L,lc,A,ac,xs,vs,lo,hi,hv,hz,hm,hl,hg,hap⟩:=h
 exact ⟨L,lc,A,ac,xs,vs,lo,hi,hv,hz,hm,own_base hl hb,hg.base hb,hap⟩
theorem OwnTy.open {w:World} {base:Nat} {v:Value} {t:Ty} (h:OwnTy w base v t):∃ L lc A ac,v=.agg #[.int .i64 t.kind,.slice L t.labels.length lc,.slice A t.args.length ac]:=by
 obtain ⟨L,lc,A,ac,xs,vs,lo,hi,hv,_⟩:=h
 exact ⟨L,lc,A,ac,hv⟩
theorem OwnTy.leaf (w:World) (base:Nat) (k:Int):OwnTy w base (.agg #[.int .i64 k,.slice none 0 0,.slice none 0 0]) (.mk k [] []):=by
 obtain ⟨xs,vs,lo,hi,hg⟩:=Gather.start w base []
 exact ⟨none,0,none,0,xs,vs,lo,hi,rfl,fun i h=>absurd h (by simp [Ty.labels]),Nat.zero_le _,World.ownsRow_nil w base _ 1,hg,fun gl h=>by cases h⟩
def OwnNew (w:World) (t:Ty) (e:Ending) (w':World):Prop:=∃ v,e=.returned v∧OwnTy w' w.heap.size v t∧Below w.heap.size w w'
end Go.Proofs.YtfnblkcmcfofoaaGreatDoor
namespace Go.Proofs.YtfnblkcmcfofoaaGreatDoor
open Go.RowKit
attribute [local go_sem ↓] Go.wp_at_zero Go.wp_at_succ
theorem gather_one {w1:World} {base lo0:Nat} {a b c:Value} {t:Ty} (hb:base≤lo0) (hs:lo0≤w1.heap.size) (ht:TyIn w1 (Span lo0 w1.heap.size) (.agg #[a,b,c]) t):
  ∃ xs vs lo hi,GatherAt (w1.alloc (.cells #[a,b,c] 27)) base (.slice (some ⟨w1.heap.size,0,none⟩) 1 1) 1 [t] xs vs lo hi:=by
 refine ⟨[a,b,c],fun _=>.agg #[a,b,c],fun _=>lo0,fun _=>w1.heap.size,World.ownsRow_lit w1 #[a,b,c] 1 (by omega) (by unfold maxLen;omega) rfl,fun i hi j hj=>?_,fun i hi=>⟨hb,by simp⟩,fun i j h1 h2=>absurd h2 (by omega),fun i hi g hg=>?_,fun i hi hi1=>?_⟩
 ·have h0:i=0:=by omega
  subst h0
  have:j=0∨j=1∨j=2:=by omega
  rcases this with rfl | rfl | rfl
  ·simp [partAt]
  ·simp [partAt]
  ·simp [partAt]
 ·intro hsp
  have e:=Option.some.inj hg
  have:=hsp.2
  simp only at e
  omega
 ·have h0:i=0:=by omega
  subst h0
  exact ht.keep fun q hq _=>Below.heap_alloc _ _ _ hq.2
set_option maxHeartbeats 1000000 in
theorem l3List_any (t:Ty) (v:Value) (w:World) (hv:TyAt w w.heap.size v t) (hsz:szTy t≤1048576):
  Calls Tryz.prog 98 #[v] w (OwnNew w (.mk 5 [] [t])):=by
 have hv0:=hv
 have HC:=Lib.hid (fun W h=>specCopy_any t v W h hsz)
 obtain ⟨L,lc,A,ac,rfl,_⟩:=hv.open
 obtain ⟨hb0,p0,r0,hs0⟩:=boxes2 w 27 27 #[.int .i64 t.kind,.slice L t.labels.length lc,.slice A t.args.length ac] #[.int .i64 0,.slice none 0 0,.slice none 0 0]
 have hv1:=hv0.up hb0
 go_enter Tryz.func98,Tryz.ntmps98
 go_wp2_with fail
 generalize (w.alloc (.cells #[.int .i64 t.kind,.slice L t.labels.length lc,.slice A t.args.length ac] 27)).alloc (.cells #[.int .i64 0,.slice none 0 0,.slice none 0 0] 27)=w0 at *
 have HZ:=Lib.hid hs0
 clear hs0 hv hv0
 refine (HC.out w0 hv1).mono ?_
 rintro e w1 ⟨v1,rfl,hv2,hb1⟩
 have HV2:=Lib.hid hv2
 obtain ⟨T1,U1,T2,U2,_,rfl,_⟩:=hv2.open
 have hs1:=hb1.size
 have hzz:=HZ.out
 have hb1':=hb0.trans (hb1.mono hb0.size)
 have r1:=r0.below hb1 r0.lt
 have r2:=r1.below ((Below.refl _ _).alloc (Nat.le_refl _) (.cells #[.int .i64 t.kind,.slice T1 t.labels.length U1,.slice T2 t.args.length U2] 27)) r1.lt
 obtain ⟨d0,d1,d2⟩:=r2.c3
 obtain ⟨f0,f1,f2⟩:=r2.f3
 obtain ⟨xs,vs,lo,hi,hG⟩:=gather_one (base:=w0.heap.size) (Nat.le_refl _) hs1 HV2.out
 have HG:=Lib.hid hG
 clear hv2 hG r0 r1 r2 hzz
 go_wp2
 refine bodyPost_ret (v:=.agg #[.int .i64 5,.slice none 0 0,.slice (some ⟨w1.heap.size,0,none⟩) 1 1]) (by simp [results,Tryz.results98,go_sem,d0,d1,d2]) rfl ⟨_,rfl,?_,?_⟩
 ·have hzz:=HZ.out
  have hk:∀ g,w0.heap.size≤g→((((w1.alloc (.cells #[.int .i64 t.kind,.slice T1 t.labels.length U1,.slice T2 t.args.length U2] 27)).setCell ⟨w.heap.size+1,0,none⟩ (.int .i64 5)).setCell ⟨w.heap.size+1,1,none⟩ (.slice none 0 0)).setCell ⟨w.heap.size+1,2,none⟩ (.slice (some ⟨w1.heap.size,0,none⟩) 1 1)).heap[g]?=(w1.alloc (.cells #[.int .i64 t.kind,.slice T1 t.labels.length U1,.slice T2 t.args.length U2] 27)).heap[g]?:=fun g hg=>by
   have:g≠w.heap.size+1:=by omega
   rw [Below.heap_setCell _ _ _ _ this,Below.heap_setCell _ _ _ _ this,Below.heap_setCell _ _ _ _ this]
  refine OwnTy.base (base':=w0.heap.size) ?_ (by omega)
  refine OwnTy.keep (w:=w1.alloc (.cells #[.int .i64 t.kind,.slice T1 t.labels.length U1,.slice T2 t.args.length U2] 27)) ?_ (by simp [World.setCell]) (fun g hg _=>hk g hg)
  exact ⟨none,0,some ⟨w1.heap.size,0,none⟩,1,xs,vs,lo,hi,rfl,fun i h=>absurd h (by simp [Ty.labels]),by unfold maxLen;simp [Ty.args],World.ownsRow_nil _ _ _ 1,HG.out,fun gl h=>by cases h⟩
 ·exact (((hb1'.alloc hb1'.size _).setCell (by simp) _).setCell (by simp) _).setCell (by simp) _
end Go.Proofs.YtfnblkcmcfofoaaGreatDoor
namespace Go.Proofs.YtfnblkcmcfofoaaGreatDoor
open Go.RowKit
attribute [local go_sem ↓] Go.wp_at_zero Go.wp_at_succ
theorem own_keep1 {w w':World} {base k:Nat} {e:TypeId} {v:Value} {xs:List Value} (h:w.ownsRow base e 1 v k xs) (hk:∀ g,v.ownBlock=some g→w'.heap[g]?=w.heap[g]?):w'.ownsRow base e 1 v k xs:=by
 refine ⟨h.1,?_⟩
 rcases h.2 with h2 | ⟨g,cap,cur,h1,h2,h3,h4⟩
 ·exact .inl h2
 ·exact .inr ⟨g,cap,cur,h1,h2,(hk g (by rw [h1];rfl)).trans h3,h4⟩
set_option maxHeartbeats 4000000 in
theorem l3Labeled_any (k0:Int) (ls:List ByteArray) (ts:List Ty) (L A:Option Addr) (lc ac:Nat) (w:World) (hl:StrsAt w w.heap.size L ls) (hz:∀ i,(h:i<ls.length)→ls[i].size≤maxLen) (ha:TysAt w w.heap.size A ts) (hln:ls.length≤1000) (htn:ts.length≤1000) (hsz:∀ i,(h:i<ts.length)→szTy ts[i]≤1048576):
  Calls Tryz.prog 136 #[.int .i64 k0,.slice L ls.length lc,.slice A ts.length ac] w (OwnNew w (.mk k0 ls ts)):=by
 obtain ⟨i0,hi,hz0,hz1,hz2⟩:=info_parts infoString
 obtain ⟨i1,hi1,hy0,hy1,hy2⟩:=info_parts infoType
 have HN:=Lib.hid hz
 have HALL:=Lib.hid hsz
 clear hz hsz
 obtain ⟨hb0,r0,hs0⟩:=boxes1 w 27 #[.int .i64 0,.slice none 0 0,.slice none 0 0]
 have hE0:((w.alloc (.cells #[.int .i64 0,.slice none 0 0,.slice none 0 0] 27)).alloc (.cells #[] 9)).ownsRow (w.heap.size+1) 9 1 (.slice (some ⟨w.heap.size+1,0,none⟩) 0 0) 0 []:=by
  have:=World.ownsRow_lit (base:=w.heap.size+1) (e:=9) (size:=1) (w.alloc (.cells #[.int .i64 0,.slice none 0 0,.slice none 0 0] 27)) #[] 0 (by simp) (Nat.zero_le _) rfl
  rw [hs0] at this
  exact this
 have hb00:Below w.heap.size w ((w.alloc (.cells #[.int .i64 0,.slice none 0 0,.slice none 0 0] 27)).alloc (.cells #[] 9)):=hb0.alloc hb0.size _
 have hsz00:((w.alloc (.cells #[.int .i64 0,.slice none 0 0,.slice none 0 0] 27)).alloc (.cells #[] 9)).heap.size=w.heap.size+2:=by simp
 have HZ:=Lib.hid hsz00
 have hr00:Whole1 ((w.alloc (.cells #[.int .i64 0,.slice none 0 0,.slice none 0 0] 27)).alloc (.cells #[] 9)) w.heap.size 27 #[.int .i64 0,.slice none 0 0,.slice none 0 0]:=r0.below ((Below.refl _ _).alloc (Nat.le_refl _) _) r0.lt
 clear hs0 hsz00
 go_enter Tryz.func136,Tryz.ntmps136
 go_wp2_with (at_builtin;refine wpList_append_cells _ rfl (.tmp 10) (.tmp 11) _ rfl (w.heap.size+1) 9 i0 (.string ⟨#[]⟩) 1 16 Tryz.underlying24 hi hz0 hz1 hz2 rfl (by decide) _ 0 [] rfl hE0 L ls.length lc (strVals ls) rfl (by simp [strVals]) (hl.up' hb00).cells (strVals_one _) (by unfold maxLen;omega) (by omega) (by rw [HZ.out];omega) ?_;intro v1 w1 hown1 hg1;have hown1':=own_strs (ss:=ls) hown1 (by simp);obtain ⟨A1,c1,rfl,hrow⟩:=own_form (ss:=ls) hown1 (by simp);have hr1:Whole1 w1 w.heap.size 27 #[.int .i64 0,.slice none 0 0,.slice none 0 0]:=(hg1.block w.heap.size (by simp;omega) (by show (some w.heap.size:Option Nat)≠some (w.heap.size+1);simp)).trans hr00;have hB1:Below w.heap.size w w1:=hb00.grown hg1 hb00.size (fun q hq=>by have:=(hE0.lt q hq).1;omega);have hs1:=hg1.size;rw [HZ.out] at hs1)
 clear hE0 hr00 hg1 hown1 hrow
 have ho0:Whole1 (w1.alloc (.cells #[.int .i64 k0,.slice A1 ls.length c1,.slice none 0 0] 27)) w1.heap.size 27 #[.int .i64 k0,.slice A1 ls.length c1,.slice none 0 0]:=Whole1.new _ _ _
 have hr2:=hr1.below ((Below.refl _ _).alloc (Nat.le_refl _) (.cells #[.int .i64 k0,.slice A1 ls.length c1,.slice none 0 0] 27)) hr1.lt
 have hb1:=hB1.alloc hB1.size (.cells #[.int .i64 k0,.slice A1 ls.length c1,.slice none 0 0] 27)
 have hown2:=own_keep1 (w':=w1.alloc (.cells #[.int .i64 k0,.slice A1 ls.length c1,.slice none 0 0] 27)) hown1' (fun g hg=>Below.heap_alloc _ _ _ (hown1'.lt g hg).2)
 have hlb:=Lib.hid (fun g (hg:(Value.slice A1 ls.length c1).ownBlock=some g)=>(hown1'.lt g hg))
 have hwcs:(w1.alloc (.cells #[.int .i64 k0,.slice A1 ls.length c1,.slice none 0 0] 27)).heap.size=w1.heap.size+1:=by simp
 generalize hpo:w1.heap.size=po at *
 generalize w1.alloc (.cells #[.int .i64 k0,.slice A1 ls.length c1,.slice none 0 0] 27)=wc at *
 have HWC:=Lib.hid hwcs
 have HPO:=Lib.hid hpo
 have hol:po<wc.heap.size:=ho0.lt
 have hrl:w.heap.size<wc.heap.size:=hr2.lt
 clear hwcs hpo hr1 hown1' r0 hB1
 go_loopw [8] (fun i wr=>∃ (k:Nat) (c2:Nat) (A2:Option Addr),k≤ts.length∧i=.int .i64 k∧Whole1 wr po 27 #[.int .i64 k0,.slice A1 ls.length c1,.slice A2 k c2]∧Gather wr wc.heap.size (.slice A2 k c2) k ts∧(∀ q,q<wc.heap.size→q≠po→wr.heap[q]?=wc.heap[q]?)∧Below w.heap.size w wr∧wc.heap.size≤wr.heap.size) (fun i _=>ts.length - (intOf i).toNat)
 case atStart=>exact ⟨0,0,none,Nat.zero_le _,rfl,ho0,Gather.start _ _ _,fun _ _ _=>rfl,hb1,Nat.le_refl _⟩
 case round=>
  obtain ⟨k,c2,A2,hk,rfl,ho,hga,hold,hb,hsz1⟩:=hrel
  have HOLD:=Lib.hid hold
  clear hold ho0
  by_cases hlt:k<ts.length
  ·obtain ⟨xs,vs,lo,hi',hG⟩:=hga
   obtain ⟨b,off,M,mc,C,cc,rfl,hbl,e0,e1,e2,_,_,_,_,ht⟩:=(ha.below hb).elem k hlt
   have hbs:=hb.size
   have HT:=Lib.hid (specCopy_any ts[k] _ wr.drew ((ht.more hbs).up (Below.refl _ _).drew) (HALL.out k hlt))
   have HG:=Lib.hid hG
   have HO:=Lib.hid ho
   have o2:wr.cell? ⟨po,2,none⟩=some (.slice A2 k c2):=ho.cell 2
   have f2:wr.frozen? ⟨po,2,none⟩=false:=ho.free 2
   have hbw:b<wr.heap.size:=by omega
   have how:po<wr.heap.size:=by omega
   have HOWN:=Lib.hid hG.own
   clear hG ho ht
   go_wp2
   go_region_law (first
    | (go_simp;go_at_call 144;refine HT.out.mono ?_;rintro e w2 ⟨v1,rfl,ht1,hb2⟩;have HT1:=Lib.hid ht1;obtain ⟨T1,U1,T2,U2,_,rfl,_⟩:=ht1.open;clear ht1;have hb2':=(Below.refl wr.heap.size wr).drew.trans hb2;have y2:=(kC hb2' o2 how);have y3:=((hb2'.alloc hb2'.size (.cells #[.int .i64 ts[k].kind,.slice T1 ts[k].labels.length U1,.slice T2 ts[k].args.length U2] 27)).cell (p:=⟨po,2,none⟩) how).trans o2;have hown2:=World.ownsRow.alloc (own_keep HOWN.out (fun g hg=>hb2'.block g (HOWN.out.lt g hg).2)) (.cells #[.int .i64 ts[k].kind,.slice T1 ts[k].labels.length U1,.slice T2 ts[k].args.length U2] 27);have hnews:=news3 w2 27 (.int .i64 ts[k].kind) (.slice T1 ts[k].labels.length U1) (.slice T2 ts[k].args.length U2))
    | (refine step_append_lies _ (by rfl) (.tmp 21) (.tmp 27) _ (by rfl) wc.heap.size 27 i1 (.agg #[.int .i64 0,.slice none 0 0,.slice none 0 0]) 3 56 Tryz.underlying25 hi1 hy0 hy1 hy2 rfl (by decide) _ k xs (by rfl) hown2 ⟨w2.heap.size,0,none⟩ 1 1 [.int .i64 ts[k].kind,.slice T1 ts[k].labels.length U1,.slice T2 ts[k].args.length U2] (by rfl) rfl hnews.1 hnews.2 (by omega) (by unfold maxLen;omega) (by omega) (by have:=hb2'.size;simp;omega) (w2.heap.size+1) (by simp) ?_;intro g cap w3 hown3 hg3 hat3 hlt3;have hvb:=fun q (hq:(Value.slice A2 k c2).ownBlock=some q)=>(HOWN.out.lt q hq).1;have ho3:Whole1 w3 po 27 #[.int .i64 k0,.slice A1 ls.length c1,.slice A2 k c2]:=((hg3.block po (by have:=hb2'.size;simp;omega) (fun e=>by have:=hvb po e.symm;omega)).trans (Below.heap_alloc _ _ _ (by have:=hb2'.size;omega))).trans ((hb2'.block po how).trans HO.out);have m2:w3.cell? ⟨po,2,none⟩=some (.slice A2 k c2):=ho3.cell 2;have n2:w3.frozen? ⟨po,2,none⟩=false:=ho3.free 2))
   all_goals
    go_wp2
    go_roundw
    case rel=>exact ⟨k+1,cap,some ⟨g,0,none⟩,by omega,by go_num,copy_rel hlt hol (by omega) hsz1 HG.out hb2' HT1.out hown3 hg3 hat3 ho3 HOLD.out hb⟩
    case measure=>simp [intOf];omega
  ·have hke:k=ts.length:=by omega
   subst hke
   have r3:Whole1 wr w.heap.size 27 #[.int .i64 0,.slice none 0 0,.slice none 0 0]:=(HOLD.out _ hrl (by omega)).trans hr2
   obtain ⟨o0,o1,o2⟩:=ho.c3
   obtain ⟨d0,d1,d2⟩:=r3.c3
   obtain ⟨e0,e1,e2⟩:=r3.f3
   have HGA:=Lib.hid hga
   clear r3 ho hga
   go_wp2
   refine bodyPost_ret (v:=.agg #[.int .i64 k0,.slice A1 ls.length c1,.slice A2 ts.length c2]) (by simp [results,Tryz.results136,go_sem,d0,d1,d2]) rfl ⟨_,rfl,?_,?_⟩
   ·have hwcs:=HWC.out
    have hpo:=HPO.out
    refine OwnTy.base (base':=w.heap.size+1) ?_ (by omega)
    refine OwnTy.keep (w:=wr) ?_ (by simp [World.setCell]) (fun g hg _=>by
     have:g≠w.heap.size:=by omega
     rw [Below.heap_setCell _ _ _ _ this,Below.heap_setCell _ _ _ _ this,Below.heap_setCell _ _ _ _ this])
    obtain ⟨xs,vs,lo,hi',hG⟩:=HGA.out
    have hlo:=hG.low
    have hrow:=own_keep1 (w':=wr) hown2 (fun g hg=>HOLD.out g (by have:=(hlb.out g hg).2;omega) (by have:=(hlb.out g hg).2;omega))
    refine ⟨A1,c1,A2,c2,xs,vs,lo,hi',rfl,HN.out,by unfold maxLen;simp only [Ty.args];omega,hrow,hG.base (by omega),fun gl hgl=>⟨fun e=>?_,fun i hi2 hsp=>?_⟩⟩
    ·have h1:=(hlb.out gl (by rw [hgl];rfl)).2
     have h2:=(hG.own.lt gl (by rw [e];rfl)).1
     omega
    ·have h1:=(hlb.out gl (by rw [hgl];rfl)).2
     have h2:=(hlo i hi2).1
     have h3:=hsp.1
     omega
   ·exact ((hb.setCell (by simp) _).setCell (by simp) _).setCell (by simp) _
end Go.Proofs.YtfnblkcmcfofoaaGreatDoor
end
