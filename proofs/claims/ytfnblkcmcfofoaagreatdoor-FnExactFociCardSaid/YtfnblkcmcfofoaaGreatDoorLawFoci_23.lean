/- Lemmas: Place, OPlace. -/
import Derived.Test.YtfnblkcmcfofoaaGreatDoorLawFoci_2
import Derived.Maps.OwnSet
import Derived.Laws.StructEq
import Derived.LaidEql
import Derived.Test.YtfnblkcmcfofoaaGreatDoorProg
import Derived.Test.YtfnblkcmcfofoaaGreatDoorLawFoci_3

section
namespace Go.Proofs.YtfnblkcmcfofoaaGreatDoor
open Go.RowKit
section
variable {P:Program} {K:Type}
structure KeyKit (P:Program) (kt:TypeId) (enc:K→Value) (Wd:World→Prop) (Ok:K→Prop):Prop where
 find:∀ (w:World) (k:K) (es:List MapEntry),(Instr.findKey kt (enc k) es).run P w=(Instr.findAsking kt (enc k) es 0).run P w
 check:∀ (w:World) (em:Bool) (k:K),(Instr.checkKey em 10000 kt (enc k)).run P w=.ok () w
 same:∀ (w:World) (k:K),(Op.equal kt (enc k) (enc k)).run P w=.ok true w
 other:∀ (w:World) (k k':K),Wd w→Ok k→Ok k'→k≠k'→(Op.equal kt (enc k) (enc k')).run P w=.ok false w
 stays:∀ (w:World) (k:K),(Instr.keyThatStays (enc k) (enc k)).run P w=.ok (enc k) w
 inj:∀ k k':K,enc k=enc k'→k=k'
variable {kt:TypeId} {enc:K→Value} {Wd:World→Prop} {Ok:K→Prop}
theorem KeyKit.ask (KK:KeyKit P kt enc Wd Ok) (w:World) (hw:Wd w) (k:K) (hk:Ok k):∀ (es:List MapEntry) (i:Nat),(∀ e ∈ es,∃ k',Ok k'∧e.key=enc k')→
  ((Instr.findAsking kt (enc k) es i).run P w=.ok none w∧∀ e ∈ es,e.key≠enc k)∨∃ j e,(Instr.findAsking kt (enc k) es i).run P w=.ok (some (i+j,e.val)) w∧es[j]?=some e∧e.key=enc k
 | [],i,_=>.inl ⟨by simp [Instr.findAsking],by simp⟩
 | e::es,i,hall=>by
  obtain ⟨k',hk',he⟩:=hall e (by simp)
  by_cases hkk:k=k'
  ·subst hkk
   exact .inr ⟨0,e,by simp [Instr.findAsking,he,KK.same],rfl,he⟩
  ·have ho:=KK.other w k k' hw hk hk' hkk
   rcases KK.ask w hw k hk es (i+1) (fun y hy=>hall y (by simp [hy])) with ⟨h1,h2⟩ | ⟨j,e',h1,h2,h3⟩
   ·refine .inl ⟨by simp [Instr.findAsking,he,ho,h1],fun y hy=>?_⟩
    rcases List.mem_cons.1 hy with rfl | hy
    ·rw [he]
     exact fun h=>hkk (KK.inj _ _ h.symm)
    ·exact h2 y hy
   ·exact .inr ⟨j+1,e',by simp [Instr.findAsking,he,ho,h1,Nat.add_assoc,Nat.add_comm 1 j],by simpa using h2,h3⟩
def Known (enc:K→Value) (Ok:K→Prop) (w:World) (b:Nat) (F:K→Option Value):Prop:=
 ∃ es clock,w.heap[b]?=some (.map es clock)∧(∀ e ∈ es.toList,∃ k,Ok k∧e.key=enc k∧F k=some e.val)∧(∀ k v,F k=some v→∃ e ∈ es.toList,e.key=enc k)∧es.toList.Pairwise (fun x y=>x.key≠y.key)
theorem Known.keep {w w':World} {b:Nat} {F:K→Option Value} (h:Known enc Ok w b F) (hk:w'.heap[b]?=w.heap[b]?):Known enc Ok w' b F:=by
 obtain ⟨es,clock,h1,h2⟩:=h
 exact ⟨es,clock,hk.trans h1,h2⟩
theorem Known.lt {w:World} {b:Nat} {F:K→Option Value} (h:Known enc Ok w b F):b<w.heap.size:=by
 obtain ⟨es,clock,h1,_⟩:=h
 exact (Array.getElem?_eq_some_iff.1 h1).1
theorem Known.new (w:World):Known enc Ok (w.alloc (.map #[] 0)) w.heap.size (fun _=>none):=
 ⟨#[],0,heap_alloc_new w _,fun e he=>absurd he (by simp),fun k v h=>(by cases h),List.Pairwise.nil⟩
theorem Known.look (KK:KeyKit P kt enc Wd Ok) {T et:TypeId} (ht:P.underlying T=some (.map kt et)) {w:World} {z:Value} (hz:(zeroValue et).run P w=.ok z w) {b:Nat} {F:K→Option Value} (h:Known enc Ok w b F) (hw:Wd w) {k:K} (hk:Ok k):
  (Instr.lookup T (.map (some b)) (enc k) true).run P w=.ok (.tuple #[(F k).getD z,.bool (F k).isSome]) w:=by
 obtain ⟨es,clock,h1,h2,h3,h4⟩:=h
 rcases KK.ask w hw k hk es.toList 0 (fun e he=>(h2 e he).imp fun k' hk'=>⟨hk'.1,hk'.2.1⟩) with ⟨r1,r2⟩ | ⟨j,e,r1,r2,r3⟩
 ·have hF:F k=none:=by
   cases hF:F k with
   | none=>rfl
   | some v=>
    obtain ⟨e,he,hek⟩:=h3 k v hF
    exact absurd hek (r2 e he)
  simp [Instr.lookup,run_underlying ht,MapKept.run_getObj_map h1,KK.check,KK.find,r1,Result.andThen,hz,hF]
 ·have hm:=List.mem_of_getElem? r2
  obtain ⟨k',_,hk2,hF⟩:=h2 e hm
  have:k'=k:=KK.inj _ _ (hk2.symm.trans r3)
  subst this
  simp [Instr.lookup,run_underlying ht,MapKept.run_getObj_map h1,KK.check,KK.find,r1,Result.andThen,hF]
theorem Known.look1 (KK:KeyKit P kt enc Wd Ok) {T et:TypeId} (ht:P.underlying T=some (.map kt et)) {w:World} {z:Value} (hz:(zeroValue et).run P w=.ok z w) {b:Nat} {F:K→Option Value} (h:Known enc Ok w b F) (hw:Wd w) {k:K} (hk:Ok k):
  (Instr.lookup T (.map (some b)) (enc k) false).run P w=.ok ((F k).getD z) w:=by
 obtain ⟨es,clock,h1,h2,h3,h4⟩:=h
 rcases KK.ask w hw k hk es.toList 0 (fun e he=>(h2 e he).imp fun k' hk'=>⟨hk'.1,hk'.2.1⟩) with ⟨r1,r2⟩ | ⟨j,e,r1,r2,r3⟩
 ·have hF:F k=none:=by
   cases hF:F k with
   | none=>rfl
   | some v=>
    obtain ⟨e,he,hek⟩:=h3 k v hF
    exact absurd hek (r2 e he)
  simp [Instr.lookup,run_underlying ht,MapKept.run_getObj_map h1,KK.check,KK.find,r1,Result.andThen,hz,hF]
 ·have hm:=List.mem_of_getElem? r2
  obtain ⟨k',_,hk2,hF⟩:=h2 e hm
  have:k'=k:=KK.inj _ _ (hk2.symm.trans r3)
  subst this
  simp [Instr.lookup,run_underlying ht,MapKept.run_getObj_map h1,KK.check,KK.find,r1,Result.andThen,hF]
open Classical in
noncomputable def put (F:K→Option Value) (k:K) (v:Value):K→Option Value:=fun x=>if x=k then some v else F x
theorem put_same (F:K→Option Value) (k:K) (v:Value):put F k v k=some v:=by simp [put]
theorem put_other (F:K→Option Value) (k x:K) (v:Value) (h:x≠k):put F k v x=F x:=by simp [put,h]
def MapOnly (b:Nat) (w w':World):Prop:=w.grownBy w' (some b)∧w'.heap.size=w.heap.size
theorem Known.store (KK:KeyKit P kt enc Wd Ok) {T et:TypeId} (ht:P.underlying T=some (.map kt et)) {w:World} {b:Nat} {F:K→Option Value} (h:Known enc Ok w b F) (hw:Wd w) {k:K} (hk:Ok k) (v:Value):
  ∃ w',(Instr.mapUpdate T (.map (some b)) (enc k) v).run P w=.ok () w'∧Known enc Ok w' b (put F k v)∧MapOnly b w w':=by
 obtain ⟨es,clock,h1,h2,h3,h4⟩:=h
 have hblk:∀ o,MapOnly b w (Go.ChangeMaps.setBlock w b o):=fun o=>⟨⟨rfl,rfl,rfl,by simp [Go.ChangeMaps.setBlock],fun i _ hi=>Go.ChangeMaps.heap_setBlock_other h1 _ (fun e=>hi (by rw [e]))⟩,by simp [Go.ChangeMaps.setBlock]⟩
 rcases KK.ask w hw k hk es.toList 0 (fun e he=>(h2 e he).imp fun k' hk'=>⟨hk'.1,hk'.2.1⟩) with ⟨r1,r2⟩ | ⟨j,e,r1,r2,r3⟩
 ·refine ⟨Go.ChangeMaps.setBlock w b (.map (es.push { key:=enc k,val:=v,born:=clock }) (clock+1)),by simp [Instr.mapUpdate,run_underlying ht,MapKept.run_getObj_map h1,KK.check,KK.find,r1,Result.andThen,MapKept.run_setObj_map _ h1,Go.ChangeMaps.setBlock],⟨_,_,Go.ChangeMaps.heap_setBlock_same h1 _,fun x hx=>?_,fun x u hx=>?_,?_⟩,hblk _⟩
  ·simp only [Array.toList_push,List.mem_append,List.mem_singleton] at hx
   rcases hx with hx | rfl
   ·obtain ⟨k',a1,a2,a3⟩:=h2 x hx
    exact ⟨k',a1,a2,by rw [put_other _ _ _ _ (fun e=>r2 x hx (by rw [a2,e])),a3]⟩
   ·exact ⟨k,hk,rfl,put_same _ _ _⟩
  ·by_cases hxk:x=k
   ·subst hxk
    exact ⟨_,by simp only [Array.toList_push,List.mem_append,List.mem_singleton];exact .inr rfl,rfl⟩
   ·rw [put_other _ _ _ _ hxk] at hx
    obtain ⟨y,hy,hyk⟩:=h3 x u hx
    exact ⟨y,by simp only [Array.toList_push,List.mem_append];exact .inl hy,hyk⟩
  ·simp only [Array.toList_push]
   refine List.pairwise_append.2 ⟨h4,by simp,fun x hx y hy=>?_⟩
   simp only [List.mem_singleton] at hy
   subst hy
   exact r2 x hx
 ·have hj:es[j]?=some e:=by simpa using r2
  have hjl:j<es.size:=(Array.getElem?_eq_some_iff.1 hj).1
  have hmod:∀ x,x ∈ (es.modify j fun e=>{ e with key:=enc k,val:=v }).toList→(x.key=enc k∧x.val=v)∨(x ∈ es.toList∧x.key≠enc k):=by
   intro x hx
   obtain ⟨i,hi,hxi⟩:=List.getElem_of_mem hx
   have hi':i<es.size:=by simpa using hi
   simp only [Array.getElem_toList,Array.getElem_modify] at hxi
   by_cases hij:j=i
   ·rw [if_pos hij] at hxi
    subst hxi
    exact .inl ⟨rfl,rfl⟩
   ·rw [if_neg hij] at hxi
    subst hxi
    refine .inr ⟨by simp,fun hk'=>?_⟩
    have he:es[j]=e:=by
     have:=(Array.getElem?_eq_some_iff.1 hj).2
     exact this
    have hne:=List.pairwise_iff_getElem.1 h4
    rcases Nat.lt_or_gt_of_ne hij with hlt | hlt
    ·exact hne j i (by simpa using hjl) (by simpa using hi') hlt (by simp only [Array.getElem_toList];rw [he,r3,hk'])
    ·exact hne i j (by simpa using hi') (by simpa using hjl) hlt (by simp only [Array.getElem_toList];rw [he,r3,hk'])
  have hkeys:(es.modify j fun e=>{ e with key:=enc k,val:=v }).toList.map (·.key)=es.toList.map (·.key):=MapKept.modify_keys j _ (fun e' he'=>by rw [hj] at he';cases he';exact r3.symm)
  refine ⟨Go.ChangeMaps.setBlock w b (.map (es.modify j fun e=>{ e with key:=enc k,val:=v }) clock),by simp [Instr.mapUpdate,run_underlying ht,MapKept.run_getObj_map h1,KK.check,KK.find,r1,Result.andThen,hj,r3,KK.stays,MapKept.run_setObj_map _ h1,Go.ChangeMaps.setBlock],⟨_,_,Go.ChangeMaps.heap_setBlock_same h1 _,fun x hx=>?_,fun x u hx=>?_,?_⟩,hblk _⟩
  ·rcases hmod x hx with ⟨a1,a2⟩ | ⟨a1,a2⟩
   ·exact ⟨k,hk,a1,by rw [put_same,a2]⟩
   ·obtain ⟨k',b1,b2,b3⟩:=h2 x a1
    exact ⟨k',b1,b2,by rw [put_other _ _ _ _ (fun e=>a2 (by rw [b2,e])),b3]⟩
  ·have:enc x ∈ (es.modify j fun e=>{ e with key:=enc k,val:=v }).toList.map (·.key):=by
    rw [hkeys]
    by_cases hxk:x=k
    ·subst hxk
     exact List.mem_map.2 ⟨e,List.mem_of_getElem? r2,r3⟩
    ·rw [put_other _ _ _ _ hxk] at hx
     obtain ⟨y,hy,hyk⟩:=h3 x u hx
     exact List.mem_map.2 ⟨y,hy,hyk⟩
   obtain ⟨y,hy,hyk⟩:=List.mem_map.1 this
   exact ⟨y,hy,hyk⟩
  ·have h4':(es.toList.map (·.key)).Pairwise (·≠·):=List.pairwise_map.2 h4
   rw [← hkeys] at h4'
   exact List.pairwise_map.1 h4'
end
end Go.Proofs.YtfnblkcmcfofoaaGreatDoor
namespace Go.Proofs.YtfnblkcmcfofoaaGreatDoor
open Go.RowKit
abbrev Pl:=Option (Nat×Nat)
def plVal:Pl→Value
 | none=>.agg #[.pointer none,.int .i64 0]
 | some (g,n)=>.agg #[.pointer (some ⟨g,0,none⟩),.int .i64 n]
def PlWd (w1:World) (B mb:Nat) (w:World):Prop:=∀ g,g<B→g≠mb→w.heap[g]?=w1.heap[g]?
def PlOk (w1:World) (B mb:Nat) (k:Pl):Prop:=∀ g n,k=some (g,n)→g<B∧g≠mb∧∃ cs t,w1.heap[g]?=some (.cells cs t (0,0))
theorem pl_held:Tryz.prog.stoodInHeld 223=false:=by kernel_rfl
theorem pl_fields:(Tryz.prog.fieldsOf 223).toList.map (fun f=>(f.name,f.type,f.offset))=[("first",221,0),("count",3,1)]:=by kernel_rfl
theorem pl_struct:Tryz.prog.underlying 223=some (.struct (Tryz.prog.fieldsOf 223)):=by kernel_rfl
theorem pl_size:(Tryz.prog.info? 27).map (fun i=>i.size)=some 3:=by kernel_rfl
theorem pl_fields2:∃ f0 f1:Field,(Tryz.prog.fieldsOf 223).toList=[f0,f1]∧f0.name= "first"∧f0.type=221∧f0.offset=0∧f1.name= "count"∧f1.type=3∧f1.offset=1:=by
 have h:=pl_fields
 generalize (Tryz.prog.fieldsOf 223).toList=l at h
 have hlen:l.length=2:=by simpa using congrArg List.length h
 match l,hlen with
 | [f0,f1],_=>
  simp at h
  exact ⟨f0,f1,rfl,h.1.1,h.1.2.1,h.1.2.2,h.2.1,h.2.2.1,h.2.2.2⟩
theorem run_isAgg_plain {P:Program} (w:World) (t:TypeId) (d:TypeDesc) (h:P.underlying t=some d) (hd:(match d with | .struct _ | .array _ _=>false | _=>true)=true):(isAgg t).run P w=.ok false w:=by
 cases d<;>simp_all [isAgg,run_underlying h,Result.andThen]
theorem run_pl_part0 (w:World) (a b:Value):(part 221 #[a,b] 0).run Tryz.prog w=.ok a w:=by
 simp [part,run_isAgg_plain w 221 _ Tryz.underlying221 rfl,Result.andThen]
theorem run_pl_part1 (w:World) (a b:Value):(part 3 #[a,b] 1).run Tryz.prog w=.ok b w:=by
 simp [part,run_isAgg_plain w 3 _ Tryz.underlying3 rfl,Result.andThen]
theorem run_sizeOf_ty (w:World):∃ n,n≠0∧(sizeOf 27).run Tryz.prog w=.ok n w:=by
 have h:=pl_size
 cases hi:Tryz.prog.info? 27 with
 | none=>rw [hi] at h;cases h
 | some i=>
  rw [hi] at h
  simp at h
  exact ⟨i.size,by omega,by simp [sizeOf,typeInfo,hi,Result.andThen]⟩
theorem run_pl_eq (w:World) (d:Nat) (p q:Option Addr) (m n:Int) (r:Bool) (hp:(Op.equalIn (d+1) 221 (.pointer p) (.pointer q)).run Tryz.prog w=.ok r w):
  (Op.equalIn (d+2) 223 (.agg #[.pointer p,.int .i64 m]) (.agg #[.pointer q,.int .i64 n])).run Tryz.prog w=.ok (r&&m == n) w:=by
 rw [run_equalIn_struct w (d+1) _ _ _ pl_struct pl_held]
 obtain ⟨f0,f1,hl,n0,t0,o0,n1,t1,o1⟩:=pl_fields2
 rw [hl]
 have he:=run_equalIn_int (P:=Tryz.prog) w d 3 .i64 _ m n Tryz.underlying3
 by_cases hmn:m=n
 ·subst hmn
  cases r<;>simp [Op.eqFields,n0,t0,o0,n1,t1,o1,run_pl_part0,run_pl_part1,hp,he,Result.andThen]
 ·have hb:(m == n)=false:=by simp [hmn]
  cases r<;>simp [Op.eqFields,n0,t0,o0,n1,t1,o1,run_pl_part0,run_pl_part1,hp,he,Result.andThen,hb]
theorem run_ptr_nil (w:World) (d:Nat):(Op.equalIn (d+1) 221 (.pointer none) (.pointer none)).run Tryz.prog w=.ok true w:=by
 simp [Op.equalIn,run_underlying Tryz.underlying221,Result.andThen]
theorem run_ptr_nil1 (w:World) (d:Nat) (a:Addr):(Op.equalIn (d+1) 221 (.pointer none) (.pointer (some a))).run Tryz.prog w=.ok false w:=by
 simp [Op.equalIn,run_underlying Tryz.underlying221,Result.andThen]
theorem run_ptr_nil2 (w:World) (d:Nat) (a:Addr):(Op.equalIn (d+1) 221 (.pointer (some a)) (.pointer none)).run Tryz.prog w=.ok false w:=by
 simp [Op.equalIn,run_underlying Tryz.underlying221,Result.andThen]
theorem run_ptr_same (w:World) (d:Nat) (a:Addr):(Op.equalIn (d+1) 221 (.pointer (some a)) (.pointer (some a))).run Tryz.prog w=.ok true w:=by
 obtain ⟨n,h0,h1⟩:=run_sizeOf_ty w
 simp [Op.equalIn,run_underlying Tryz.underlying221,Result.andThen,h0,h1,run_sameAddr_same]
theorem run_ptr_other (w:World) (d:Nat) {a b:Addr} {ca cb:Array Value} {ta tb:TypeId} (hne:a≠b) (ha:w.heap[a.block]?=some (.cells ca ta (0,0))) (hb:w.heap[b.block]?=some (.cells cb tb (0,0))):(Op.equalIn (d+1) 221 (.pointer (some a)) (.pointer (some b))).run Tryz.prog w=.ok false w:=by
 obtain ⟨n,h0,h1⟩:=run_sizeOf_ty w
 simp [Op.equalIn,run_underlying Tryz.underlying221,Result.andThen,h0,h1,run_sameAddr_other w hne ha hb]
theorem pl_eq_same (w:World) (d:Nat) (k:Pl):(Op.equalIn (d+2) 223 (plVal k) (plVal k)).run Tryz.prog w=.ok true w:=by
 cases k with
 | none=>simpa [plVal] using run_pl_eq w d none none 0 0 true (run_ptr_nil w d)
 | some p=>simpa [plVal] using run_pl_eq w d (some ⟨p.1,0,none⟩) (some ⟨p.1,0,none⟩) p.2 p.2 true (run_ptr_same w d _)
theorem pl_eq_other {w1:World} {B mb:Nat} (w:World) (d:Nat) (k k':Pl) (hw:PlWd w1 B mb w) (hk:PlOk w1 B mb k) (hk':PlOk w1 B mb k') (hne:k≠k'):(Op.equalIn (d+2) 223 (plVal k) (plVal k')).run Tryz.prog w=.ok false w:=by
 match k,k',hk,hk',hne with
 | none,none,_,_,h=>exact absurd rfl h
 | none,some (g,n),_,_,_=>simpa [plVal] using run_pl_eq w d none (some ⟨g,0,none⟩) 0 n false (run_ptr_nil1 w d _)
 | some (g,n),none,_,_,_=>simpa [plVal] using run_pl_eq w d (some ⟨g,0,none⟩) none n 0 false (run_ptr_nil2 w d _)
 | some (g,n),some (g',n'),hk,hk',hne=>
  by_cases hg:g=g'
  ·subst hg
   have hn:((n:Int) == (n':Int))=false:=by
    rw [beq_eq_false_iff_ne]
    intro e
    exact hne (by rw [show n=n' by omega])
   simpa [plVal,hn] using run_pl_eq w d (some ⟨g,0,none⟩) (some ⟨g,0,none⟩) n n' true (run_ptr_same w d _)
  ·obtain ⟨b1,b2,cs,t,b3⟩:=hk g n rfl
   obtain ⟨c1,c2,cs',t',c3⟩:=hk' g' n' rfl
   simpa [plVal] using run_pl_eq w d (some ⟨g,0,none⟩) (some ⟨g',0,none⟩) n n' false (run_ptr_other w d (a:=⟨g,0,none⟩) (b:=⟨g',0,none⟩) (fun e=>hg (by injection e)) ((hw g b1 b2).trans b3) ((hw g' c1 c2).trans c3))
theorem plVal_inj (k k':Pl) (h:plVal k=plVal k'):k=k':=by
 match k,k',h with
 | none,none,_=>rfl
 | none,some (g,n),h=>simp [plVal] at h
 | some (g,n),none,h=>simp [plVal] at h
 | some (g,n),some (g',n'),h=>
  simp [plVal] at h
  obtain ⟨rfl,h2⟩:=h
  rw [show n=n' by omega]
theorem pl_check (w:World) (em:Bool) (n:Nat) (k:Pl):(Instr.checkKey em (n+2) 223 (plVal k)).run Tryz.prog w=.ok () w:=by
 have h2:∀ a b:Value,(∃ p m,a=.pointer p∧b=.int .i64 m)→(Instr.checkKey em (n+2) 223 (.agg #[a,b])).run Tryz.prog w=.ok () w:=by
  rintro a b ⟨p,m,rfl,rfl⟩
  obtain ⟨f0,f1,hl,n0,t0,o0,n1,t1,o1⟩:=pl_fields2
  have c0:(Instr.checkKey em (n+1) 221 (.pointer p)).run Tryz.prog w=.ok () w:=by simp [Instr.checkKey,run_underlying Tryz.underlying221,Result.andThen]
  have c1:(Instr.checkKey em (n+1) 3 (.int .i64 m)).run Tryz.prog w=.ok () w:=by simp [Instr.checkKey,run_underlying Tryz.underlying3,Result.andThen]
  unfold Instr.checkKey
  simp only [Sem.run_bind,run_underlying pl_struct,Result.andThen_ok]
  rw [← Array.forIn_toList,hl]
  simp [n0,t0,o0,n1,t1,o1,run_pl_part0,run_pl_part1,c0,c1,Result.andThen]
 match k with
 | none=>exact h2 _ _ ⟨_,_,rfl,rfl⟩
 | some (g,m)=>exact h2 _ _ ⟨_,_,rfl,rfl⟩
theorem findKey_wide {P:Program} {kt:TypeId} {d:TypeDesc} (hd:P.underlying kt=some d) (hw:(match d with | .struct _ | .array _ _=>true | _=>false)=true) (w:World) (x:Value) (es:List MapEntry):(Instr.findKey kt x es).run P w=(Instr.findAsking kt x es 0).run P w:=by
 cases es with
 | nil=>simp [Instr.findKey,run_underlying hd,Result.andThen,Instr.findNow,Instr.findAsking]
 | cons e r=>
  have:Instr.sameNow d x e.key=none:=by
   cases d<;>simp_all [Instr.sameNow]
  simp [Instr.findKey,run_underlying hd,Result.andThen,Instr.findNow,this]
theorem stays_agg {P:Program} (w:World) (cs:Array Value) (h:∀ v ∈ cs.toList,Instr.sameBits 9999 v v=true):(Instr.keyThatStays (.agg cs) (.agg cs)).run P w=.ok (.agg cs) w:=by
 have hs:Instr.sameBits 10000 (.agg cs) (.agg cs)=true:=by
  show Instr.sameBits (9999+1) (.agg cs) (.agg cs)=true
  simp only [Instr.sameBits,beq_self_eq_true,Bool.true_and,List.all_eq_true]
  intro p hp
  obtain ⟨i,hi,e⟩:=List.getElem_of_mem hp
  rw [List.getElem_zip] at e
  rw [← e]
  exact h _ (List.getElem_mem _)
 simp [Instr.keyThatStays,hs]
theorem plKit (w1:World) (B mb:Nat):KeyKit Tryz.prog 223 plVal (PlWd w1 B mb) (PlOk w1 B mb) where
 find:=fun w k es=>findKey_wide pl_struct rfl w _ es
 check:=fun w em k=>pl_check w em 9998 k
 same:=fun w k=>pl_eq_same w 9998 k
 other:=fun w k k' hw hk hk' hne=>pl_eq_other w 9998 k k' hw hk hk' hne
 stays:=fun w k=>by
  match k with
  | none=>exact stays_agg w _ (by simp [Instr.sameBits])
  | some (g,n)=>exact stays_agg w _ (by simp [Instr.sameBits])
 inj:=plVal_inj
end Go.Proofs.YtfnblkcmcfofoaaGreatDoor
end
section
namespace Go.Proofs.YtfnblkcmcfofoaaGreatDoor.O
open Go.RowKit
theorem pl_held:Tryz.prog.stoodInHeld 208=false:=by kernel_rfl
theorem pl_fields:(Tryz.prog.fieldsOf 208).toList.map (fun f=>(f.name,f.type,f.offset))=[("first",206,0),("count",3,1)]:=by kernel_rfl
theorem pl_struct:Tryz.prog.underlying 208=some (.struct (Tryz.prog.fieldsOf 208)):=by kernel_rfl
theorem pl_size:(Tryz.prog.info? 30).map (fun i=>i.size)=some 4:=by kernel_rfl
theorem pl_fields2:∃ f0 f1:Field,(Tryz.prog.fieldsOf 208).toList=[f0,f1]∧f0.name= "first"∧f0.type=206∧f0.offset=0∧f1.name= "count"∧f1.type=3∧f1.offset=1:=by
 have h:=pl_fields
 generalize (Tryz.prog.fieldsOf 208).toList=l at h
 have hlen:l.length=2:=by simpa using congrArg List.length h
 match l,hlen with
 | [f0,f1],_=>
  simp at h
  exact ⟨f0,f1,rfl,h.1.1,h.1.2.1,h.1.2.2,h.2.1,h.2.2.1,h.2.2.2⟩
theorem run_pl_part0 (w:World) (a b:Value):(part 206 #[a,b] 0).run Tryz.prog w=.ok a w:=by
 simp [part,run_isAgg_plain w 206 _ Tryz.underlying206 rfl,Result.andThen]
theorem run_pl_part1 (w:World) (a b:Value):(part 3 #[a,b] 1).run Tryz.prog w=.ok b w:=by
 simp [part,run_isAgg_plain w 3 _ Tryz.underlying3 rfl,Result.andThen]
theorem run_sizeOf_ty (w:World):∃ n,n≠0∧(sizeOf 30).run Tryz.prog w=.ok n w:=by
 have h:=pl_size
 cases hi:Tryz.prog.info? 30 with
 | none=>rw [hi] at h;cases h
 | some i=>
  rw [hi] at h
  simp at h
  exact ⟨i.size,by omega,by simp [sizeOf,typeInfo,hi,Result.andThen]⟩
theorem run_pl_eq (w:World) (d:Nat) (p q:Option Addr) (m n:Int) (r:Bool) (hp:(Op.equalIn (d+1) 206 (.pointer p) (.pointer q)).run Tryz.prog w=.ok r w):
  (Op.equalIn (d+2) 208 (.agg #[.pointer p,.int .i64 m]) (.agg #[.pointer q,.int .i64 n])).run Tryz.prog w=.ok (r&&m == n) w:=by
 rw [run_equalIn_struct w (d+1) _ _ _ pl_struct pl_held]
 obtain ⟨f0,f1,hl,n0,t0,o0,n1,t1,o1⟩:=pl_fields2
 rw [hl]
 have he:=run_equalIn_int (P:=Tryz.prog) w d 3 .i64 _ m n Tryz.underlying3
 by_cases hmn:m=n
 ·subst hmn
  cases r<;>simp [Op.eqFields,n0,t0,o0,n1,t1,o1,run_pl_part0,run_pl_part1,hp,he,Result.andThen]
 ·have hb:(m == n)=false:=by simp [hmn]
  cases r<;>simp [Op.eqFields,n0,t0,o0,n1,t1,o1,run_pl_part0,run_pl_part1,hp,he,Result.andThen,hb]
theorem run_ptr_nil (w:World) (d:Nat):(Op.equalIn (d+1) 206 (.pointer none) (.pointer none)).run Tryz.prog w=.ok true w:=by
 simp [Op.equalIn,run_underlying Tryz.underlying206,Result.andThen]
theorem run_ptr_nil1 (w:World) (d:Nat) (a:Addr):(Op.equalIn (d+1) 206 (.pointer none) (.pointer (some a))).run Tryz.prog w=.ok false w:=by
 simp [Op.equalIn,run_underlying Tryz.underlying206,Result.andThen]
theorem run_ptr_nil2 (w:World) (d:Nat) (a:Addr):(Op.equalIn (d+1) 206 (.pointer (some a)) (.pointer none)).run Tryz.prog w=.ok false w:=by
 simp [Op.equalIn,run_underlying Tryz.underlying206,Result.andThen]
theorem run_ptr_same (w:World) (d:Nat) (a:Addr):(Op.equalIn (d+1) 206 (.pointer (some a)) (.pointer (some a))).run Tryz.prog w=.ok true w:=by
 obtain ⟨n,h0,h1⟩:=run_sizeOf_ty w
 simp [Op.equalIn,run_underlying Tryz.underlying206,Result.andThen,h0,h1,run_sameAddr_same]
theorem run_ptr_other (w:World) (d:Nat) {a b:Addr} {ca cb:Array Value} {ta tb:TypeId} (hne:a≠b) (ha:w.heap[a.block]?=some (.cells ca ta (0,0))) (hb:w.heap[b.block]?=some (.cells cb tb (0,0))):(Op.equalIn (d+1) 206 (.pointer (some a)) (.pointer (some b))).run Tryz.prog w=.ok false w:=by
 obtain ⟨n,h0,h1⟩:=run_sizeOf_ty w
 simp [Op.equalIn,run_underlying Tryz.underlying206,Result.andThen,h0,h1,run_sameAddr_other w hne ha hb]
theorem pl_eq_same (w:World) (d:Nat) (k:Pl):(Op.equalIn (d+2) 208 (plVal k) (plVal k)).run Tryz.prog w=.ok true w:=by
 cases k with
 | none=>simpa [plVal] using run_pl_eq w d none none 0 0 true (run_ptr_nil w d)
 | some p=>simpa [plVal] using run_pl_eq w d (some ⟨p.1,0,none⟩) (some ⟨p.1,0,none⟩) p.2 p.2 true (run_ptr_same w d _)
theorem pl_eq_other {w1:World} {B mb:Nat} (w:World) (d:Nat) (k k':Pl) (hw:PlWd w1 B mb w) (hk:PlOk w1 B mb k) (hk':PlOk w1 B mb k') (hne:k≠k'):(Op.equalIn (d+2) 208 (plVal k) (plVal k')).run Tryz.prog w=.ok false w:=by
 match k,k',hk,hk',hne with
 | none,none,_,_,h=>exact absurd rfl h
 | none,some (g,n),_,_,_=>simpa [plVal] using run_pl_eq w d none (some ⟨g,0,none⟩) 0 n false (run_ptr_nil1 w d _)
 | some (g,n),none,_,_,_=>simpa [plVal] using run_pl_eq w d (some ⟨g,0,none⟩) none n 0 false (run_ptr_nil2 w d _)
 | some (g,n),some (g',n'),hk,hk',hne=>
  by_cases hg:g=g'
  ·subst hg
   have hn:((n:Int) == (n':Int))=false:=by
    rw [beq_eq_false_iff_ne]
    intro e
    exact hne (by rw [show n=n' by omega])
   simpa [plVal,hn] using run_pl_eq w d (some ⟨g,0,none⟩) (some ⟨g,0,none⟩) n n' true (run_ptr_same w d _)
  ·obtain ⟨b1,b2,cs,t,b3⟩:=hk g n rfl
   obtain ⟨c1,c2,cs',t',c3⟩:=hk' g' n' rfl
   simpa [plVal] using run_pl_eq w d (some ⟨g,0,none⟩) (some ⟨g',0,none⟩) n n' false (run_ptr_other w d (a:=⟨g,0,none⟩) (b:=⟨g',0,none⟩) (fun e=>hg (by injection e)) ((hw g b1 b2).trans b3) ((hw g' c1 c2).trans c3))
theorem pl_check (w:World) (em:Bool) (n:Nat) (k:Pl):(Instr.checkKey em (n+2) 208 (plVal k)).run Tryz.prog w=.ok () w:=by
 have h2:∀ a b:Value,(∃ p m,a=.pointer p∧b=.int .i64 m)→(Instr.checkKey em (n+2) 208 (.agg #[a,b])).run Tryz.prog w=.ok () w:=by
  rintro a b ⟨p,m,rfl,rfl⟩
  obtain ⟨f0,f1,hl,n0,t0,o0,n1,t1,o1⟩:=pl_fields2
  have c0:(Instr.checkKey em (n+1) 206 (.pointer p)).run Tryz.prog w=.ok () w:=by simp [Instr.checkKey,run_underlying Tryz.underlying206,Result.andThen]
  have c1:(Instr.checkKey em (n+1) 3 (.int .i64 m)).run Tryz.prog w=.ok () w:=by simp [Instr.checkKey,run_underlying Tryz.underlying3,Result.andThen]
  unfold Instr.checkKey
  simp only [Sem.run_bind,run_underlying pl_struct,Result.andThen_ok]
  rw [← Array.forIn_toList,hl]
  simp [n0,t0,o0,n1,t1,o1,run_pl_part0,run_pl_part1,c0,c1,Result.andThen]
 match k with
 | none=>exact h2 _ _ ⟨_,_,rfl,rfl⟩
 | some (g,m)=>exact h2 _ _ ⟨_,_,rfl,rfl⟩
theorem plKit (w1:World) (B mb:Nat):KeyKit Tryz.prog 208 plVal (PlWd w1 B mb) (PlOk w1 B mb) where
 find:=fun w k es=>findKey_wide pl_struct rfl w _ es
 check:=fun w em k=>pl_check w em 9998 k
 same:=fun w k=>pl_eq_same w 9998 k
 other:=fun w k k' hw hk hk' hne=>pl_eq_other w 9998 k k' hw hk hk' hne
 stays:=fun w k=>by
  match k with
  | none=>exact stays_agg w _ (by simp [Instr.sameBits])
  | some (g,n)=>exact stays_agg w _ (by simp [Instr.sameBits])
 inj:=plVal_inj
end Go.Proofs.YtfnblkcmcfofoaaGreatDoor.O
end
