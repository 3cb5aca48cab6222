/- Lemmas: TypLaws, Foci, FociSz. -/
import Derived.Test.YtfnblkcmcfofoaaGreatDoorLawFoci_19
import Derived.Test.YtfnblkcmcfofoaaGreatDoorLawFoci_14

namespace Go.Proofs.YtfnblkcmcfofoaaGreatDoor
section
set_option maxRecDepth 100000
theorem leafO_kind {k:Int} {nm:ByteArray} {s t:Ty} {kd:Int} (h:leafO k nm s=some (t,kd)):isKindB kd=true:=by
 unfold leafO at h
 repeat' split at h
 all_goals first
  | (simp only [Option.some.injEq,Prod.mk.injEq] at h;obtain ⟨_,rfl⟩:=h;rfl)
  | (simp only [Option.map_eq_some_iff,Prod.mk.injEq] at h;obtain ⟨_,_,_,rfl⟩:=h;rfl)
  | cases h
theorem joinI_kind {a b:Int} (ha:isKindB a=true) (hb:isKindB b=true):isKindB (joinI a b)=true:=by
 rcases five ha with rfl | rfl | rfl | rfl | rfl<;>rcases five hb with rfl | rfl | rfl | rfl | rfl<;>rfl
theorem goodO_some {p:Option (Ty×Int)} {t:Ty} {kd:Int} (h:goodO p=some (t,kd)):p=some (t,kd):=(goodO_valid h).1
theorem typeO_kind:∀ (o:Ot) (s t:Ty) (kd:Int),typeO o s=some (t,kd)→isKindB kd=true:=by
 intro o
 induction o using Ot.ind with
 | h k n nm ts ih=>
  intro s t kd h
  rw [typeO] at h
  have h1:=goodO_some h
  unfold nodeTyO at h1
  split at h1
  ·match ts,ih,h1 with
   | [],_,h1=>simp [typeOs] at h1
   | [_],_,h1=>simp [typeOs] at h1
   | [a,b],ih,h1=>
    simp only [typeOs,thenO] at h1
    cases ha:typeO a s with
    | none=>simp [ha] at h1
    | some p=>
     obtain ⟨ta,ka⟩:=p
     simp only [ha] at h1
     cases hb:typeO b ta with
     | none=>simp [hb] at h1
     | some q=>
      obtain ⟨tb,kb⟩:=q
      simp only [hb,Option.some.injEq,Prod.mk.injEq] at h1
      obtain ⟨_,rfl⟩:=h1
      exact joinI_kind (ih 0 (by simp) s ta ka ha) (ih 1 (by simp) ta tb kb hb)
   | _::_::_::_,_,h1=>simp [typeOs] at h1
  ·split at h1
   ·match ts,h1 with
    | [],h1=>simp [typeOs] at h1
    | [_],h1=>simp [typeOs] at h1
    | [a,b],h1=>
     simp only [typeOs,elseO] at h1
     cases ha:typeO a s with
     | none=>simp [ha] at h1
     | some p=>
      obtain ⟨ta,ka⟩:=p
      simp only [ha] at h1
      cases hb:typeO b s with
      | none=>simp [hb] at h1
      | some q=>
       obtain ⟨tb,kb⟩:=q
       simp only [hb] at h1
       split at h1
       ·simp only [Option.some.injEq,Prod.mk.injEq] at h1
        obtain ⟨_,rfl⟩:=h1
        rfl
       ·cases h1
    | _::_::_::_,h1=>simp [typeOs] at h1
   ·split at h1
    ·match ts,h1 with
     | [],h1=>simp [typeOs] at h1
     | [a],h1=>
      simp only [typeOs,mapO] at h1
      split at h1
      ·split at h1
       ·cases h1
       ·split at h1
        ·cases h1
        ·split at h1
         ·simp only [Option.some.injEq,Prod.mk.injEq] at h1
          obtain ⟨_,rfl⟩:=h1
          rfl
         ·cases h1
      ·cases h1
     | _::_::_,h1=>simp [typeOs] at h1
    ·exact leafO_kind h1
end
section
set_option maxRecDepth 100000
open Go.RowKit
def fits (v:Va) (t:Ty):Bool:=formVa v&&hasB v t
theorem fits_has {v:Va} {t:Ty} (h:hasTypeB v t=true):fits v t=true:=by
 obtain ⟨h1,_,h3⟩:=hasTypeB_parts h
 unfold valueB at h1
 simp only [Bool.and_eq_true] at h1
 simp [fits,h1.2,h3]
theorem hasEach_at:∀ (vs:List Va) (e:Ty),hasEach vs (some e)=true→∀ i,(h1:i<vs.length)→hasB vs[i] e=true:=by
 intro vs e h i h1
 cases hb:hasB vs[i] e with
 | true=>rfl
 | false=>rw [hasEach_no vs e i h1 hb] at h;cases h
theorem fits_rec {v:Va} {ls2:List ByteArray} {ts:List Ty} (h:fits v (.mk 3 ls2 ts)=true) (hn:nodeB 3 ls2 ts.length=true):
  v.kind=3∧v.labels=ls2∧v.args.length=ts.length∧∀ i,(h1:i<v.args.length)→(h2:i<ts.length)→fits v.args[i] ts[i]=true:=by
 cases v with
 | mk k n nm ls vs=>
  simp only [fits,Bool.and_eq_true] at h
  obtain ⟨hf,hh⟩:=h
  rw [hasB] at hh
  rw [show Ty.kind (.mk 3 ls2 ts)=3 from rfl,show Ty.labels (.mk 3 ls2 ts)=ls2 from rfl,show Ty.args (.mk 3 ls2 ts)=ts from rfl,if_neg (by decide),if_neg (by decide),if_pos rfl] at hh
  simp only [Bool.and_eq_true,decide_eq_true_eq] at hh
  obtain ⟨⟨hk3,hl⟩,hz⟩:=hh
  subst hk3
  have hll:ls=ls2:=by
   unfold textsB at hl
   simpa using hl
  subst hll
  rw [formVa,Bool.and_eq_true] at hf
  have hnv:=hf.2
  unfold nodeVB at hnv
  unfold nodeB at hn
  rw [if_neg (by decide),if_neg (by decide),if_pos rfl] at hnv
  rw [if_neg (by decide),if_pos (by decide)] at hn
  simp only [Bool.and_eq_true,decide_eq_true_eq] at hnv hn
  have hlen:vs.length=ts.length:=by omega
  refine ⟨rfl,rfl,hlen,fun i h1 h2=>?_⟩
  simp only [Va.args] at h1 ⊢
  simp only [fits,Bool.and_eq_true]
  exact ⟨formVas_at' vs hf.1 i h1,hasZip_at vs ts hz i h1 h2⟩
theorem fits_sum {v:Va} {ls2:List ByteArray} {ts:List Ty} (h:fits v (.mk 4 ls2 ts)=true):
  v.kind=4∧0≤idxOf ls2 v.name∧∃ x,v.args=[x]∧∃ t,ts[(idxOf ls2 v.name).toNat]?=some t∧fits x t=true:=by
 cases v with
 | mk k n nm ls vs=>
  simp only [fits,Bool.and_eq_true] at h
  obtain ⟨hf,hh⟩:=h
  rw [hasB] at hh
  rw [show Ty.kind (.mk 4 ls2 ts)=4 from rfl,show Ty.labels (.mk 4 ls2 ts)=ls2 from rfl,show Ty.args (.mk 4 ls2 ts)=ts from rfl,if_neg (by decide),if_neg (by decide),if_neg (by decide),if_pos rfl] at hh
  simp only [Bool.and_eq_true,decide_eq_true_eq] at hh
  obtain ⟨⟨hk3,hl⟩,hz⟩:=hh
  subst hk3
  rw [formVa,Bool.and_eq_true] at hf
  have hnv:=hf.2
  unfold nodeVB at hnv
  rw [if_neg (by decide),if_neg (by decide),if_neg (by decide),if_pos rfl] at hnv
  simp only [Bool.and_eq_true,decide_eq_true_eq] at hnv
  obtain ⟨x,rfl⟩:=List.length_eq_one_iff.1 hnv.2
  refine ⟨rfl,hl,x,rfl,?_⟩
  simp only [Va.name]
  cases ht:ts[(idxOf ls2 nm).toNat]? with
  | none=>rw [ht] at hz;simp [hasHead] at hz
  | some t=>
   rw [ht,hasHead] at hz
   have h0:=formVas_at' [x] hf.1 0 (by simp)
   exact ⟨t,rfl,by simp only [fits,Bool.and_eq_true];exact ⟨h0,hz⟩⟩
theorem fits_list {v:Va} {ls2:List ByteArray} {e:Ty} (h:fits v (.mk 5 ls2 [e])=true):v.kind=5∧∀ x ∈ v.args,fits x e=true:=by
 cases v with
 | mk k n nm ls vs=>
  simp only [fits,Bool.and_eq_true] at h
  obtain ⟨hf,hh⟩:=h
  rw [hasB] at hh
  rw [show Ty.kind (.mk 5 ls2 [e])=5 from rfl,show Ty.args (.mk 5 ls2 [e])=[e] from rfl,if_neg (by decide),if_neg (by decide),if_neg (by decide),if_neg (by decide)] at hh
  simp only [Bool.and_eq_true,decide_eq_true_eq] at hh
  rw [formVa,Bool.and_eq_true] at hf
  refine ⟨hh.1,fun x hx=>?_⟩
  obtain ⟨i,hi,rfl⟩:=List.getElem_of_mem hx
  simp only [Va.args] at hi ⊢
  simp only [fits,Bool.and_eq_true]
  exact ⟨formVas_at' vs hf.1 i hi,hasEach_at vs e hh.2 i hi⟩
def intVa (n:Int):Va:=.mk 1 n ⟨#[]⟩ [] []
def boolVa (b:Bool):Va:=.mk 2 (if b then 1 else 0) ⟨#[]⟩ [] []
def listVa (vs:List Va):Va:=.mk 5 0 ⟨#[]⟩ [] vs
def recVa (nm:ByteArray) (v:Va):Va:=.mk 3 0 ⟨#[]⟩ [nm] [v]
def nodeF (k n:Int) (nm:ByteArray) (fs:List (Va→List Va)) (v:Va):List Va:=
 if k=2 then (match v.args[(idxOf v.labels nm).toNat]? with | some x=>[x] | none=>[])
 else if k=3 then (if v.name=nm then v.args else [])
 else if k=4 then v.args
 else if k=5 then v.args
 else if k=6 then (if n<v.args.length then (match v.args[n.toNat]? with | some x=>[x] | none=>[]) else [])
 else if k=7 then [intVa (IntKind.i64.wrap (v.num+n))]
 else if k=8 then [boolVa (decide (v.num=0))]
 else if k=9 then [listVa v.args.reverse]
 else if k=10 then [recVa nm v]
 else if k=11 then (match fs with | [f]=>[listVa (v.args.flatMap f)] | _=>[])
 else if k=12 then (match fs with | [f,g]=>(f v).flatMap g | _=>[])
 else if k=13 then (match fs with | [f,g]=>if (f v).length=0 then g v else f v | _=>[])
 else [v]
mutual
def fociO:Ot→Va→List Va | .mk k n nm ts=>fun v=>nodeF k n nm (fociOs ts) v
def fociOs:List Ot→List (Va→List Va) | []=>[] | t::r=>fociO t::fociOs r
end
def cntB (kd:Int) (n:Nat):Bool:=if kd=1∨kd=2 then decide (n=1) else if kd=3∨kd=4 then decide (n≤1) else true
theorem fociO_eq (k n:Int) (nm:ByteArray) (ts:List Ot) (v:Va):fociO (.mk k n nm ts) v=nodeF k n nm (fociOs ts) v:=by rw [fociO]
theorem node_of {k:Int} {ls:List ByteArray} {ts:List Ty} (h:validB (.mk k ls ts)=true):nodeB k ls ts.length=true:=formTy_node h
def FociFit (o:Ot):Prop:=∀ (s t:Ty) (kd:Int) (v:Va),validB s=true→typeO o s=some (t,kd)→fits v s=true→(∀ x ∈ fociO o v,fits x t=true)∧cntB kd (fociO o v).length=true
theorem intVa_fits (n:Int) (ls:List ByteArray) (ts:List Ty):fits (intVa n) (.mk 1 ls ts)=true:=by
 have h0:(⟨#[]⟩:ByteArray).size=0:=rfl
 simp [fits,intVa,formVa,formVas,nodeVB,hasB,Ty.kind,h0]
theorem boolVa_fits (b:Bool) (ls:List ByteArray) (ts:List Ty):fits (boolVa b) (.mk 2 ls ts)=true:=by
 have h0:(⟨#[]⟩:ByteArray).size=0:=rfl
 cases b<;>simp [fits,boolVa,formVa,formVas,nodeVB,hasB,Ty.kind,h0]
theorem hasEach_all:∀ (vs:List Va) (e:Ty),(∀ x ∈ vs,hasB x e=true)→hasEach vs (some e)=true
 | [],_,_=>by rw [hasEach];intro _ _ _ h;cases h
 | x::r,e,h=>by
  rw [hasEach,h x (by simp),hasEach_all r e fun y hy=>h y (by simp [hy])]
  rfl
theorem listVa_fits {vs:List Va} {ls:List ByteArray} {e:Ty} (h:∀ x ∈ vs,fits x e=true):fits (listVa vs) (.mk 5 ls [e])=true:=by
 have h0:(⟨#[]⟩:ByteArray).size=0:=rfl
 simp only [fits,Bool.and_eq_true] at h ⊢
 refine ⟨?_,?_⟩
 ·rw [listVa,formVa,formVas_all vs fun i hi=>(h _ (List.getElem_mem hi)).1]
  simp [nodeVB,h0]
 ·rw [listVa,hasB,show Ty.kind (.mk 5 ls [e])=5 from rfl,if_neg (by decide),if_neg (by decide),if_neg (by decide),if_neg (by decide)]
  rw [show (Ty.args (.mk 5 ls [e]))[0]?=some e from rfl,hasEach_all vs e fun x hx=>(h x hx).2]
  rfl
theorem recVa_fits {v:Va} {s:Ty} {nm:ByteArray} (h:fits v s=true) (hn:labelsB [nm]=true):fits (recVa nm v) (.mk 3 [nm] [s])=true:=by
 have h0:(⟨#[]⟩:ByteArray).size=0:=rfl
 simp only [fits,Bool.and_eq_true] at h ⊢
 refine ⟨?_,?_⟩
 ·rw [recVa,formVa,formVas,formVas,h.1]
  simp [nodeVB,h0,hn]
 ·rw [recVa,hasB,show Ty.kind (.mk 3 [nm] [s])=3 from rfl,if_neg (by decide),if_neg (by decide),if_pos rfl]
  rw [show Ty.args (.mk 3 [nm] [s])=[s] from rfl,show Ty.labels (.mk 3 [nm] [s])=[nm] from rfl,hasZip,hasZip,h.2]
  simp [textsB]
theorem ite_map {c:Prop} [Decidable c] {o:Option Ty} {q kd:Int} {t:Ty} (h:(if c then o.map (fun x=>(x,q)) else none)=some (t,kd)):c∧o=some t∧kd=q:=by
 split at h
 ·rename_i hc
  simp only [Option.map_eq_some_iff,Prod.mk.injEq] at h
  obtain ⟨a,ha,rfl,rfl⟩:=h
  exact ⟨hc,ha,rfl⟩
 ·cases h
theorem ite_some {c:Prop} [Decidable c] {s t:Ty} {q kd:Int} (h:(if c then some (s,q) else none)=some (t,kd)):c∧s=t∧kd=q:=by
 split at h
 ·rename_i hc
  simp only [Option.some.injEq,Prod.mk.injEq] at h
  exact ⟨hc,h.1,h.2.symm⟩
 ·cases h
theorem leaf_fit {k n:Int} {nm:ByteArray} {fs:List (Va→List Va)} {s t:Ty} {kd:Int} {v:Va} (hk:k≠11∧k≠12∧k≠13) (hnm:k=10→labelsB [nm]=true) (hs:validB s=true) (hl:leafO k nm s=some (t,kd)) (hv:fits v s=true):
  (∀ x ∈ nodeF k n nm fs v,fits x t=true)∧cntB kd (nodeF k n nm fs v).length=true:=by
 obtain ⟨sk,sl,sa⟩:=s
 have hn:=node_of hs
 by_cases h1:k=1
 ·subst h1
  simp only [leafO,if_true,Option.some.injEq,Prod.mk.injEq] at hl
  obtain ⟨rfl,rfl⟩:=hl
  exact ⟨fun x hx=>(by simp [nodeF] at hx;rw [hx];exact hv),by simp [nodeF,cntB]⟩
 by_cases h2:k=2
 ·subst h2
  rw [leafO,if_neg (by decide),if_pos rfl] at hl
  obtain ⟨hk',hp,rfl⟩:=ite_map hl
  obtain rfl:sk=3:=hk'
  obtain ⟨_,hls,hlen,hfit⟩:=fits_rec hv hn
  unfold partB at hp
  split at hp
  ·simp only [Ty.labels,Ty.args] at hp
   obtain ⟨hi,rfl⟩:=List.getElem?_eq_some_iff.1 hp
   have hi':(idxOf sl nm).toNat<v.args.length:=by omega
   have e:nodeF 2 n nm fs v=[v.args[(idxOf sl nm).toNat]]:=by simp [nodeF,hls,List.getElem?_eq_getElem hi']
   rw [e]
   exact ⟨fun x hx=>(by simp at hx;rw [hx];exact hfit _ hi' hi),by simp [cntB]⟩
  ·cases hp
 by_cases h3:k=3
 ·subst h3
  rw [leafO,if_neg (by decide),if_neg (by decide),if_pos rfl] at hl
  obtain ⟨hk',hp,rfl⟩:=ite_map hl
  obtain rfl:sk=4:=hk'
  obtain ⟨_,_,x,hx,t',ht',hfit⟩:=fits_sum hv
  unfold partB at hp
  split at hp
  ·simp only [Ty.labels,Ty.args] at hp
   by_cases he:v.name=nm
   ·rw [he] at ht'
    rw [ht'] at hp
    cases hp
    have e:nodeF 3 n nm fs v=[x]:=by simp [nodeF,he,hx]
    rw [e]
    exact ⟨fun y hy=>(by simp at hy;rw [hy];exact hfit),by simp [cntB]⟩
   ·have e:nodeF 3 n nm fs v=[]:=by simp [nodeF,he]
    rw [e]
    exact ⟨fun y hy=>(by simp at hy),by simp [cntB]⟩
  ·cases hp
 by_cases h4:k=4
 ·subst h4
  rw [leafO,if_neg (by decide),if_neg (by decide),if_neg (by decide),if_pos rfl] at hl
  obtain ⟨hk',hp,rfl⟩:=ite_map hl
  obtain rfl:sk=5:=hk'
  obtain ⟨e,rfl⟩:=list_one hs
  simp [Ty.args] at hp
  subst hp
  obtain ⟨_,hfit⟩:=fits_list hv
  have e:nodeF 4 n nm fs v=v.args:=by simp [nodeF]
  rw [e]
  exact ⟨hfit,by simp [cntB]⟩
 by_cases h5:k=5
 ·subst h5
  rw [leafO,if_neg (by decide),if_neg (by decide),if_neg (by decide),if_neg (by decide),if_pos rfl] at hl
  obtain ⟨hu,hp,rfl⟩:=ite_map hl
  have hu3:sk=3:=by
   unfold uniformB at hu
   simp only [Bool.and_eq_true,decide_eq_true_eq] at hu
   exact hu.1.2
  subst hu3
  obtain ⟨_,hls,hlen,hfit⟩:=fits_rec hv hn
  have e:nodeF 5 n nm fs v=v.args:=by simp [nodeF]
  rw [e]
  refine ⟨fun x hx=>?_,by simp [cntB]⟩
  obtain ⟨i,hi,rfl⟩:=List.getElem_of_mem hx
  have h6:=hfit i hi (by omega)
  have h7:sa[i]'(by omega)=t:=by
   unfold uniformB at hu
   simp only [Bool.and_eq_true] at hu
   have h8:=hu.2
   cases sa with
   | nil=>simp [Ty.args] at hp
   | cons a r=>
    simp [Ty.args] at hp
    subst hp
    simp only [Ty.args] at h8
    cases i with
    | zero=>rfl
    | succ j=>
     have hj:j<r.length:=by simp at hlen;omega
     have h9:=List.all_eq_true.1 h8 r[j] (List.getElem_mem hj)
     by_cases hab:a=r[j]
     ·exact hab.symm
     ·rw [eqTyB_no hab] at h9
      cases h9
  rwa [h7] at h6
 by_cases h6:k=6
 ·subst h6
  rw [leafO,if_neg (by decide),if_neg (by decide),if_neg (by decide),if_neg (by decide),if_neg (by decide),if_pos rfl] at hl
  obtain ⟨hk',hp,rfl⟩:=ite_map hl
  obtain rfl:sk=5:=hk'
  obtain ⟨e,rfl⟩:=list_one hs
  simp [Ty.args] at hp
  subst hp
  obtain ⟨_,hfit⟩:=fits_list hv
  have e:nodeF 6 n nm fs v=if n<v.args.length then (match v.args[n.toNat]? with | some x=>[x] | none=>[]) else []:=by simp [nodeF]
  rw [e]
  split
  ·cases hg:v.args[n.toNat]? with
   | none=>exact ⟨fun x hx=>(by simp at hx),by simp [cntB]⟩
   | some y=>
    obtain ⟨hi,rfl⟩:=List.getElem?_eq_some_iff.1 hg
    exact ⟨fun x hx=>(by simp at hx;rw [hx];exact hfit _ (List.getElem_mem hi)),by simp [cntB]⟩
  ·exact ⟨fun x hx=>(by simp at hx),by simp [cntB]⟩
 by_cases h7:k=7
 ·subst h7
  rw [leafO,if_neg (by decide),if_neg (by decide),if_neg (by decide),if_neg (by decide),if_neg (by decide),if_neg (by decide),if_pos rfl] at hl
  obtain ⟨hk',rfl,rfl⟩:=ite_some hl
  obtain rfl:sk=1:=hk'
  exact ⟨fun x hx=>(by simp [nodeF] at hx;rw [hx];exact intVa_fits _ _ _),by simp [nodeF,cntB]⟩
 by_cases h8:k=8
 ·subst h8
  rw [leafO,if_neg (by decide),if_neg (by decide),if_neg (by decide),if_neg (by decide),if_neg (by decide),if_neg (by decide),if_neg (by decide),if_pos rfl] at hl
  obtain ⟨hk',rfl,rfl⟩:=ite_some hl
  obtain rfl:sk=2:=hk'
  exact ⟨fun x hx=>(by simp [nodeF] at hx;rw [hx];exact boolVa_fits _ _ _),by simp [nodeF,cntB]⟩
 by_cases h9:k=9
 ·subst h9
  rw [leafO,if_neg (by decide),if_neg (by decide),if_neg (by decide),if_neg (by decide),if_neg (by decide),if_neg (by decide),if_neg (by decide),if_neg (by decide),if_pos rfl] at hl
  obtain ⟨hk',rfl,rfl⟩:=ite_some hl
  obtain rfl:sk=5:=hk'
  obtain ⟨e,rfl⟩:=list_one hs
  obtain ⟨_,hfit⟩:=fits_list hv
  exact ⟨fun x hx=>(by simp [nodeF] at hx;rw [hx];exact listVa_fits fun y hy=>hfit y (by simpa using hy)),by simp [nodeF,cntB]⟩
 by_cases h10:k=10
 ·subst h10
  simp only [leafO] at hl
  simp at hl
  obtain ⟨rfl,rfl⟩:=hl
  exact ⟨fun x hx=>(by simp [nodeF] at hx;rw [hx];exact recVa_fits hv (hnm rfl)),by simp [nodeF,cntB]⟩
 simp [leafO,h1,h2,h3,h4,h5,h6,h7,h8,h9,h10] at hl
theorem valid_elem0 {sl:List ByteArray} {e1:Ty} (h:validB (.mk 5 sl [e1])=true):validB e1=true:=by
 unfold validB at h ⊢
 simp only [Bool.and_eq_true,decide_eq_true_eq] at h ⊢
 obtain ⟨⟨h1,h2⟩,h3⟩:=h
 rw [sizeTy] at h1
 rw [depthTy] at h2
 simp only [sizeTys,depthTys] at h1 h2
 rw [formTy,Bool.and_eq_true] at h3
 have h4:=formTys_at' [e1] h3.1 0 (by simp)
 exact ⟨⟨by omega,by omega⟩,h4⟩
theorem cnt_bind {a b:Int} {l:List Va} {g:Va→List Va} (ha:isKindB a=true) (hb:isKindB b=true) (hl:cntB a l.length=true) (hg:∀ x ∈ l,cntB b (g x).length=true):cntB (joinI a b) (l.flatMap g).length=true:=by
 have one:∀ n:Nat,cntB a n=true→a=1∨a=2→n=1:=by
  intro n h h'
  unfold cntB at h
  rw [if_pos h'] at h
  exact of_decide_eq_true h
 by_cases h5:joinI a b=5
 ·rw [h5]
  simp [cntB]
 have hle:∀ k:Int,isKindB k=true→k≠5→∀ n:Nat,cntB k n=true→n≤1:=by
  intro k hk hk5 n hn
  rcases five hk with rfl | rfl | rfl | rfl | rfl<;>simp [cntB] at hn hk5 ⊢<;>omega
 have ha5:a≠5:=fun e=>h5 (by subst e;rcases five hb with rfl | rfl | rfl | rfl | rfl<;>rfl)
 have hb5:b≠5:=fun e=>h5 (by subst e;rcases five ha with rfl | rfl | rfl | rfl | rfl<;>rfl)
 have hl1:=hle a ha ha5 _ hl
 match l,hl1,hl,hg with
 | [],_,hl,_=>
  have ha':a=3∨a=4:=by
   rcases five ha with rfl | rfl | rfl | rfl | rfl
   ·simp [cntB] at hl
   ·simp [cntB] at hl
   ·exact .inl rfl
   ·exact .inr rfl
   ·exact absurd rfl ha5
  rcases ha' with rfl | rfl<;>rcases five hb with rfl | rfl | rfl | rfl | rfl<;>first | rfl | exact absurd rfl hb5
 | [x],_,_,hg=>
  have h:=hg x (by simp)
  have hx:=hle b hb hb5 _ h
  simp only [List.flatMap_cons,List.flatMap_nil,List.append_nil]
  generalize (g x).length=m at *
  rcases five ha with rfl | rfl | rfl | rfl | rfl<;>rcases five hb with rfl | rfl | rfl | rfl | rfl<;>first | exact absurd rfl ha5 | exact absurd rfl hb5 | exact h | (simp [cntB] at h;subst h;rfl) | (simp [cntB,joinI] at h ⊢;omega)
 | _::_::_,hl1,_,_=>simp at hl1
theorem name_labels {k n:Int} {nm:ByteArray} {ts:List Ot} (h:formOt (.mk k n nm ts)=true) (hk:k=10):labelsB [nm]=true:=by
 simp only [formOt,nodeOB,Bool.and_eq_true] at h
 have h1:=h.2.1.1
 rw [if_pos (.inr (.inr hk))] at h1
 simp [labelsB,h1,ascB]
theorem foci_fit (o:Ot):formOt o=true→FociFit o:=by
 induction o using Ot.ind with
 | h k n nm ts ih=>
  intro hf s t kd v hs hty hv
  rw [typeO] at hty
  have hgo:=(goodO_valid hty).1
  rw [fociO_eq]
  by_cases h12:k=12
  ·obtain ⟨a,b,rfl,fa,fb⟩:=form_two hf (.inl h12)
   subst h12
   simp only [nodeTyO,if_true,typeOs,thenO] at hgo
   cases hta:typeO a s with
   | none=>simp [hta] at hgo
   | some p=>
    obtain ⟨ta,ka⟩:=p
    simp only [hta] at hgo
    cases htb:typeO b ta with
    | none=>simp [htb] at hgo
    | some q=>
     obtain ⟨tb,kb⟩:=q
     simp only [htb,Option.some.injEq,Prod.mk.injEq] at hgo
     obtain ⟨rfl,rfl⟩:=hgo
     have h1:=ih 0 (by simp) fa s ta ka v hs hta hv
     have h2:=fun x hx=>ih 1 (by simp) fb ta tb kb x (typeO_valid hta) htb (h1.1 x hx)
     have e:nodeF 12 n nm (fociOs [a,b]) v=(fociO a v).flatMap (fociO b):=by simp [nodeF,fociOs]
     rw [e]
     refine ⟨fun x hx=>?_,cnt_bind (typeO_kind a s ta ka hta) (typeO_kind b ta tb kb htb) h1.2 fun x hx=>(h2 x hx).2⟩
     obtain ⟨y,hy,hxy⟩:=List.mem_flatMap.1 hx
     exact (h2 y hy).1 x hxy
  by_cases h13:k=13
  ·obtain ⟨a,b,rfl,fa,fb⟩:=form_two hf (.inr h13)
   subst h13
   simp only [nodeTyO,typeOs,elseO] at hgo
   simp only [show ((13:Int)=12)=False from by simp,if_false,if_true] at hgo
   cases hta:typeO a s with
   | none=>simp [hta] at hgo
   | some p=>
    obtain ⟨ta,ka⟩:=p
    simp only [hta] at hgo
    cases htb:typeO b s with
    | none=>simp [htb] at hgo
    | some q=>
     obtain ⟨tb,kb⟩:=q
     simp only [htb] at hgo
     split at hgo
     ·rename_i hc
      simp only [Bool.and_eq_true] at hc
      simp only [Option.some.injEq,Prod.mk.injEq] at hgo
      obtain ⟨rfl,rfl⟩:=hgo
      have hab:ta=tb:=by
       by_cases hab:ta=tb
       ·exact hab
       ·rw [eqTyB_no hab] at hc
        cases hc.2
      subst hab
      have h1:=ih 0 (by simp) fa s ta ka v hs hta hv
      have h2:=ih 1 (by simp) fb s ta kb v hs htb hv
      have w4:∀ (c:Int) (m:Nat),withinB c 4=true→cntB c m=true→cntB 4 m=true:=by
       intro c m hw hm
       have hk:=(withinB_kinds hw).1
       rcases five hk with rfl | rfl | rfl | rfl | rfl<;>simp [cntB] at hm ⊢<;>first | omega | exact absurd hw (by decide)
      have e:nodeF 13 n nm (fociOs [a,b]) v=if (fociO a v).length=0 then fociO b v else fociO a v:=by simp [nodeF,fociOs]
      rw [e]
      split
      ·exact ⟨h2.1,w4 kb _ hc.1.2 h2.2⟩
      ·exact ⟨h1.1,w4 ka _ hc.1.1 h1.2⟩
     ·cases hgo
  by_cases h11:k=11
  ·obtain ⟨a,rfl,fa⟩:=form_one hf h11
   subst h11
   simp only [nodeTyO,typeOs] at hgo
   simp only [show ((11:Int)=12)=False from by simp,show ((11:Int)=13)=False from by simp,if_false,if_true] at hgo
   unfold mapO at hgo
   obtain ⟨sk,sl,sa⟩:=s
   split at hgo
   ·rename_i hk
    obtain rfl:sk=5:=hk
    obtain ⟨e,rfl⟩:=list_one hs
    simp only [Ty.args,List.getElem?_cons_zero] at hgo
    cases hta:typeO a e with
    | none=>simp [hta] at hgo
    | some p=>
     obtain ⟨ta,ka⟩:=p
     simp only [hta] at hgo
     split at hgo
     ·rename_i hka
      subst hka
      simp only [Option.some.injEq,Prod.mk.injEq] at hgo
      obtain ⟨rfl,rfl⟩:=hgo
      have e':nodeF 11 n nm (fociOs [a]) v=[listVa (v.args.flatMap (fociO a))]:=by simp [nodeF,fociOs]
      rw [e']
      refine ⟨fun x hx=>?_,by simp [cntB]⟩
      simp at hx
      rw [hx]
      refine listVa_fits fun y hy=>?_
      obtain ⟨z,hz,hyz⟩:=List.mem_flatMap.1 hy
      exact (ih 0 (by simp) fa e ta 1 z (valid_elem0 hs) hta ((fits_list hv).2 z hz)).1 y hyz
     ·cases hgo
   ·cases hgo
  ·have hl:leafO k nm s=some (t,kd):=by
    simpa [nodeTyO,h11,h12,h13] using hgo
   exact leaf_fit ⟨h11,h12,h13⟩ (name_labels hf) hs hl hv
end
section
set_option maxRecDepth 100000
mutual
def lfVa:Va→Nat | .mk _ _ _ _ ts=>max 1 (lfVas ts)
def lfVas:List Va→Nat | []=>0 | t::r=>lfVa t+lfVas r
end
theorem lfVa_pos (v:Va):1≤lfVa v:=by cases v;rw [lfVa];omega
theorem lfVa_args (v:Va):lfVas v.args≤lfVa v:=by cases v;rw [lfVa];exact Nat.le_max_right _ _
theorem lfVas_append:∀ (a b:List Va),lfVas (a++b)=lfVas a+lfVas b
 | [],b=>by simp [lfVas]
 | t::a,b=>by
  rw [List.cons_append,lfVas,lfVas,lfVas_append a b]
  omega
theorem lfVas_reverse:∀ (a:List Va),lfVas a.reverse=lfVas a
 | []=>rfl
 | t::a=>by
  rw [List.reverse_cons,lfVas_append,lfVas_reverse a,lfVas,lfVas,lfVas]
  omega
theorem szVas_reverse:∀ (a:List Va),szVas a.reverse=szVas a
 | []=>rfl
 | t::a=>by
  rw [List.reverse_cons,szVas_append,szVas_reverse a,szVas,szVas,szVas]
  omega
theorem lf_mem:∀ (ts:List Va) (x:Va),x ∈ ts→lfVa x≤lfVas ts∧1+szVa x≤szVas ts
 | [],_,h=>by cases h
 | t::r,x,h=>by
  rw [lfVas,szVas]
  rcases List.mem_cons.1 h with rfl | h
  ·omega
  ·have:=lf_mem r x h
   omega
mutual
theorem lfVa_le:∀ (v:Va),lfVa v≤sizeVa v
 | .mk _ _ _ _ ts=>by
  rw [lfVa,sizeVa]
  have:=lfVas_le ts
  omega
theorem lfVas_le:∀ (ts:List Va),lfVas ts≤sizeVas ts
 | []=>by rw [lfVas,sizeVas];exact Nat.le_refl _
 | t::r=>by
  rw [lfVas,sizeVas]
  have:=lfVa_le t
  have:=lfVas_le r
  omega
end
theorem lf_bind {g:Va→List Va}:∀ (l:List Va),(∀ x ∈ l,lfVas (g x)≤lfVa x)→lfVas (l.flatMap g)≤lfVas l
 | [],_=>by simp [lfVas]
 | t::r,h=>by
  rw [List.flatMap_cons,lfVas_append,lfVas]
  have h1:=h t (by simp)
  have h2:=lf_bind r fun x hx=>h x (by simp [hx])
  omega
theorem sz_bind {g:Va→List Va} {K:Nat}:∀ (l:List Va),(∀ x ∈ l,szVas (g x)≤1+szVa x+K * lfVa x)→szVas (l.flatMap g)≤szVas l+K * lfVas l
 | [],_=>by simp [szVas]
 | t::r,h=>by
  rw [List.flatMap_cons,szVas_append,szVas,lfVas,Nat.mul_add]
  have h1:=h t (by simp)
  have h2:=sz_bind r fun x hx=>h x (by simp [hx])
  omega
theorem leaf_sz {k n:Int} {nm:ByteArray} {fs:List (Va→List Va)} (hk:k≠11∧k≠12∧k≠13) (hnm:k=10→nm.size≤4) (v:Va):
  lfVas (nodeF k n nm fs v)≤lfVa v∧szVas (nodeF k n nm fs v)≤1+szVa v+6 * lfVa v:=by
 have hp:=lfVa_pos v
 have ha:=lfVa_args v
 have hz:=szVa_eq v
 have one:∀ x:Va,lfVas [x]=lfVa x∧szVas [x]=1+szVa x:=fun x=>by simp [lfVas,szVas]
 have nil:lfVas []=0∧szVas []=0:=⟨rfl,rfl⟩
 have h0:(⟨#[]⟩:ByteArray).size=0:=rfl
 have part:∀ x ∈ v.args,lfVas [x]≤lfVa v∧szVas [x]≤1+szVa v+6 * lfVa v:=by
  intro x hx
  have:=lf_mem v.args x hx
  rw [(one x).1,(one x).2]
  omega
 by_cases h2:k=2
 ·subst h2
  cases hx:v.args[(idxOf v.labels nm).toNat]? with
  | none=>
   have e:nodeF 2 n nm fs v=[]:=by simp [nodeF,hx]
   rw [e]
   exact ⟨by rw [nil.1];omega,by rw [nil.2];omega⟩
  | some x=>
   have e:nodeF 2 n nm fs v=[x]:=by simp [nodeF,hx]
   rw [e]
   obtain ⟨hi,rfl⟩:=List.getElem?_eq_some_iff.1 hx
   exact part _ (List.getElem_mem hi)
 by_cases h3:k=3
 ·subst h3
  have e:nodeF 3 n nm fs v=if v.name=nm then v.args else []:=by simp [nodeF]
  rw [e]
  split
  ·exact ⟨ha,by omega⟩
  ·exact ⟨by rw [nil.1];omega,by rw [nil.2];omega⟩
 by_cases h4:k=4
 ·subst h4
  have e:nodeF 4 n nm fs v=v.args:=by simp [nodeF]
  rw [e]
  exact ⟨ha,by omega⟩
 by_cases h5:k=5
 ·subst h5
  have e:nodeF 5 n nm fs v=v.args:=by simp [nodeF]
  rw [e]
  exact ⟨ha,by omega⟩
 by_cases h6:k=6
 ·subst h6
  by_cases hlt:n<v.args.length
  ·cases hx:v.args[n.toNat]? with
   | none=>
    have e:nodeF 6 n nm fs v=[]:=by simp [nodeF,hx]
    rw [e]
    exact ⟨by rw [nil.1];omega,by rw [nil.2];omega⟩
   | some x=>
    have e:nodeF 6 n nm fs v=[x]:=by simp [nodeF,hx,hlt]
    rw [e]
    obtain ⟨hi,rfl⟩:=List.getElem?_eq_some_iff.1 hx
    exact part _ (List.getElem_mem hi)
  ·have e:nodeF 6 n nm fs v=[]:=by simp [nodeF,hlt]
   rw [e]
   exact ⟨by rw [nil.1];omega,by rw [nil.2];omega⟩
 by_cases h7:k=7
 ·subst h7
  have e:nodeF 7 n nm fs v=[intVa (IntKind.i64.wrap (v.num+n))]:=by simp [nodeF]
  rw [e,(one _).1,(one _).2]
  have e1:lfVa (intVa (IntKind.i64.wrap (v.num+n)))=1:=by rw [intVa,lfVa,lfVas];rfl
  have e2:szVa (intVa (IntKind.i64.wrap (v.num+n)))=0:=by rw [intVa,szVa,szVas,sumSizes,h0];rfl
  omega
 by_cases h8:k=8
 ·subst h8
  have e:nodeF 8 n nm fs v=[boolVa (decide (v.num=0))]:=by simp [nodeF]
  rw [e,(one _).1,(one _).2]
  have e1:lfVa (boolVa (decide (v.num=0)))=1:=by rw [boolVa,lfVa,lfVas];rfl
  have e2:szVa (boolVa (decide (v.num=0)))=0:=by rw [boolVa,szVa,szVas,sumSizes,h0];rfl
  omega
 by_cases h9:k=9
 ·subst h9
  have e:nodeF 9 n nm fs v=[listVa v.args.reverse]:=by simp [nodeF]
  rw [e,(one _).1,(one _).2]
  have e1:lfVa (listVa v.args.reverse)=max 1 (lfVas v.args):=by rw [listVa,lfVa,lfVas_reverse]
  have e2:szVa (listVa v.args.reverse)=szVas v.args:=by
   rw [listVa,szVa,szVas_reverse,sumSizes,h0]
   simp
  omega
 by_cases h10:k=10
 ·subst h10
  have h4':=hnm rfl
  have e:nodeF 10 n nm fs v=[recVa nm v]:=by simp [nodeF]
  rw [e,(one _).1,(one _).2]
  have e1:lfVa (recVa nm v)=max 1 (lfVa v):=by rw [recVa,lfVa,(one v).1]
  have e2:szVa (recVa nm v)=1+nm.size+(1+szVa v):=by
   rw [recVa,szVa,(one v).2,h0]
   simp [sumSizes]
  omega
 have e:nodeF k n nm fs v=[v]:=by simp [nodeF,h2,h3,h4,h5,h6,h7,h8,h9,h10,hk.1,hk.2.1,hk.2.2]
 rw [e,(one v).1,(one v).2]
 omega
theorem name_four {k n:Int} {nm:ByteArray} {ts:List Ot} (h:formOt (.mk k n nm ts)=true) (hk:k=10):nm.size≤4:=by
 simp only [formOt,nodeOB,Bool.and_eq_true] at h
 have h1:=h.2.1.1
 rw [if_pos (.inr (.inr hk))] at h1
 have:=sumSizes_names [nm] (by simp [h1])
 simpa [sumSizes] using this
theorem foci_sz (o:Ot):formOt o=true→∀ v:Va,lfVas (fociO o v)≤lfVa v∧szVas (fociO o v)≤1+szVa v+6 * sizeOt o * lfVa v:=by
 induction o using Ot.ind with
 | h k n nm ts ih=>
  intro hf v
  rw [fociO_eq]
  have hse:=sizeOt_eq (.mk k n nm ts)
  simp only [Ot.args] at hse
  by_cases h12:k=12
  ·obtain ⟨a,b,rfl,fa,fb⟩:=form_two hf (.inl h12)
   subst h12
   have e:nodeF 12 n nm (fociOs [a,b]) v=(fociO a v).flatMap (fociO b):=by simp [nodeF,fociOs]
   rw [e]
   have h1:=ih 0 (by simp) fa v
   have h2:=fun x=>ih 1 (by simp) fb x
   simp only [List.getElem_cons_zero,List.getElem_cons_succ] at h1 h2
   have h3:=lf_bind (g:=fociO b) (fociO a v) fun x _=>(h2 x).1
   have h4:=sz_bind (g:=fociO b) (K:=6 * sizeOt b) (fociO a v) fun x _=>(h2 x).2
   refine ⟨Nat.le_trans h3 h1.1,?_⟩
   have h5:6 * sizeOt b * lfVas (fociO a v)≤6 * sizeOt b * lfVa v:=Nat.mul_le_mul_left _ h1.1
   have h6:6 * sizeOt a * lfVa v+6 * sizeOt b * lfVa v≤6 * sizeOt (.mk 12 n nm [a,b]) * lfVa v:=by
    rw [← Nat.add_mul]
    exact Nat.mul_le_mul_right _ (by simp only [sizeOts] at hse;omega)
   omega
  by_cases h13:k=13
  ·obtain ⟨a,b,rfl,fa,fb⟩:=form_two hf (.inr h13)
   subst h13
   have e:nodeF 13 n nm (fociOs [a,b]) v=if (fociO a v).length=0 then fociO b v else fociO a v:=by simp [nodeF,fociOs]
   rw [e]
   have h1:=ih 0 (by simp) fa v
   have h2:=ih 1 (by simp) fb v
   simp only [List.getElem_cons_zero,List.getElem_cons_succ] at h1 h2
   have h6:6 * sizeOt a * lfVa v≤6 * sizeOt (.mk 13 n nm [a,b]) * lfVa v:=Nat.mul_le_mul_right _ (by simp only [sizeOts] at hse;omega)
   have h7:6 * sizeOt b * lfVa v≤6 * sizeOt (.mk 13 n nm [a,b]) * lfVa v:=Nat.mul_le_mul_right _ (by simp only [sizeOts] at hse;omega)
   split
   ·exact ⟨h2.1,by omega⟩
   ·exact ⟨h1.1,by omega⟩
  by_cases h11:k=11
  ·obtain ⟨a,rfl,fa⟩:=form_one hf h11
   subst h11
   have e:nodeF 11 n nm (fociOs [a]) v=[listVa (v.args.flatMap (fociO a))]:=by simp [nodeF,fociOs]
   rw [e]
   have h2:=fun x=>ih 0 (by simp) fa x
   simp only [List.getElem_cons_zero] at h2
   have h3:=lf_bind (g:=fociO a) v.args fun x _=>(h2 x).1
   have h4:=sz_bind (g:=fociO a) (K:=6 * sizeOt a) v.args fun x _=>(h2 x).2
   have h0:(⟨#[]⟩:ByteArray).size=0:=rfl
   have hp:=lfVa_pos v
   have ha:=lfVa_args v
   have hz:=szVa_eq v
   have h5:6 * sizeOt a * lfVas v.args≤6 * sizeOt a * lfVa v:=Nat.mul_le_mul_left _ ha
   have h6:6 * sizeOt a * lfVa v≤6 * sizeOt (.mk 11 n nm [a]) * lfVa v:=Nat.mul_le_mul_right _ (by simp only [sizeOts] at hse;omega)
   have e1:lfVas [listVa (v.args.flatMap (fociO a))]=max 1 (lfVas (v.args.flatMap (fociO a))):=by rw [lfVas,lfVas,listVa,lfVa];omega
   have e2:szVas [listVa (v.args.flatMap (fociO a))]=1+szVas (v.args.flatMap (fociO a)):=by
    rw [szVas,szVas,listVa,szVa,sumSizes,h0]
    simp
   rw [e1,e2]
   omega
  ·have h1:=leaf_sz (n:=n) (fs:=fociOs ts) ⟨h11,h12,h13⟩ (fun h10=>name_four hf h10) v
   have h6:6 * 1 * lfVa v≤6 * sizeOt (.mk k n nm ts) * lfVa v:=Nat.mul_le_mul_right _ (by omega)
   exact ⟨h1.1,by omega⟩
end
end Go.Proofs.YtfnblkcmcfofoaaGreatDoor
