/- Lemmas: OtIn, OpenOt, VaIn, Nums, OpenVa. -/
import Derived.Test.YtfnblkcmcfofoaaGreatDoorLawFoci_2

section
namespace Go.Proofs.YtfnblkcmcfofoaaGreatDoor
open Go.RowKit
inductive Ot where
 | mk (k n:Int) (nm:ByteArray) (ts:List Ot)
def Ot.kind:Ot→Int | .mk k _ _ _=>k
def Ot.num:Ot→Int | .mk _ n _ _=>n
def Ot.name:Ot→ByteArray | .mk _ _ nm _=>nm
def Ot.args:Ot→List Ot | .mk _ _ _ ts=>ts
theorem Ot.ind {P:Ot→Prop} (h:∀ k n nm (ts:List Ot),(∀ i,(hi:i<ts.length)→P ts[i])→P (.mk k n nm ts)) (t:Ot):P t:=
 Ot.rec (motive_1:=P) (motive_2:=fun ts=>∀ i,(hi:i<ts.length)→P ts[i]) h (fun i hi=>absurd hi (Nat.not_lt_zero i))
  (fun a r ha hr i hi=>match i,hi with | 0,_=>ha | i+1,hi=>hr i (Nat.lt_of_succ_lt_succ hi)) t
inductive OtAt (w:World) (B:Nat):Value→Ot→Prop where
 | mk {k n:Int} {nm:ByteArray} {ts:List Ot} {A:Option Addr} {ac:Nat} (vs:Nat→Value) (hnm:nm.size≤maxLen) (hm:ts.length≤maxLen) (hes:ElemsAt 4 w B A ts.length vs)
   (hks:∀ i,(hi:i<ts.length)→OtAt w B (vs i) ts[i]):OtAt w B (.agg #[.int .i64 k,.string nm,.int .i64 n,.slice A ts.length ac]) (.mk k n nm ts)
theorem OtAt.keep {w w':World} {B:Nat} {v:Value} {t:Ot} (h:OtAt w B v t) (hk:∀ p:Addr,p.block<B→w'.cell? p=w.cell? p):OtAt w' B v t:=by
 induction h with
 | mk vs hnm hm hes _ ih=>exact .mk vs hnm hm (hes.keep hk) ih
theorem OtAt.more {w:World} {B B':Nat} {v:Value} {t:Ot} (h:OtAt w B v t) (hB:B≤B'):OtAt w B' v t:=by
 induction h with
 | mk vs hnm hm hes _ ih=>exact .mk vs hnm hm (hes.more hB) ih
theorem OtAt.lift {w w':World} {B:Nat} {v:Value} {t:Ot} (h:OtAt w B v t) (hb:Below B w w'):OtAt w' B v t:=h.keep fun _ hp=>hb.cell hp
theorem OtAt.up {w w':World} {v:Value} {t:Ot} (h:OtAt w w.heap.size v t) (hb:Below w.heap.size w w'):OtAt w' w'.heap.size v t:=(h.lift hb).more hb.size
def OtsAt (w:World) (B:Nat) (A:Option Addr) (ts:List Ot):Prop:=ts.length≤maxLen∧∃ vs:Nat→Value,ElemsAt 4 w B A ts.length vs∧∀ i,(hi:i<ts.length)→OtAt w B (vs i) ts[i]
theorem OtsAt.keep {w w':World} {B:Nat} {A:Option Addr} {ts:List Ot} (h:OtsAt w B A ts) (hk:∀ p:Addr,p.block<B→w'.cell? p=w.cell? p):OtsAt w' B A ts:=by
 obtain ⟨h0,vs,h1,h2⟩:=h
 exact ⟨h0,vs,h1.keep hk,fun i hi=>(h2 i hi).keep hk⟩
theorem OtsAt.more {w:World} {B B':Nat} {A:Option Addr} {ts:List Ot} (h:OtsAt w B A ts) (hB:B≤B'):OtsAt w B' A ts:=by
 obtain ⟨h0,vs,h1,h2⟩:=h
 exact ⟨h0,vs,h1.more hB,fun i hi=>(h2 i hi).more hB⟩
theorem OtsAt.below {w w':World} {B:Nat} {A:Option Addr} {ts:List Ot} (h:OtsAt w B A ts) (hb:Below B w w'):OtsAt w' B A ts:=h.keep fun _ hp=>hb.cell hp
theorem OtsAt.up {w w':World} {A:Option Addr} {ts:List Ot} (h:OtsAt w w.heap.size A ts) (hb:Below w.heap.size w w'):OtsAt w' w'.heap.size A ts:=(h.below hb).more hb.size
theorem OtAt.open {w:World} {B:Nat} {v:Value} {t:Ot} (h:OtAt w B v t):∃ A ac,v=.agg #[.int .i64 t.kind,.string t.name,.int .i64 t.num,.slice A t.args.length ac]∧t.name.size≤maxLen∧OtsAt w B A t.args:=by
 cases h with
 | mk vs hnm hm hes hks=>exact ⟨_,_,rfl,hnm,hm,vs,hes,hks⟩
theorem OtAt.of {w:World} {B ac:Nat} {A:Option Addr} {t:Ot} (hnm:t.name.size≤maxLen) (ha:OtsAt w B A t.args):OtAt w B (.agg #[.int .i64 t.kind,.string t.name,.int .i64 t.num,.slice A t.args.length ac]) t:=by
 obtain ⟨h0,vs,h1,h2⟩:=ha
 cases t
 exact .mk vs hnm h0 h1 h2
theorem OtsAt.elem {w:World} {B:Nat} {A:Option Addr} {ts:List Ot} (h:OtsAt w B A ts) (i:Nat) (hi:i<ts.length):
  ∃ b off A' ac,A=some ⟨b,off,none⟩∧b<B∧w.cell? ⟨b,off+i * 4,none⟩=some (.int .i64 ts[i].kind)∧w.cell? ⟨b,off+i * 4+2,none⟩=some (.int .i64 ts[i].num)∧w.cell? ⟨b,off+i * 4+1,none⟩=some (.string ts[i].name)∧
   w.cell? ⟨b,off+i * 4+3,none⟩=some (.slice A' ts[i].args.length ac)∧
   OtAt w B (.agg #[.int .i64 ts[i].kind,.string ts[i].name,.int .i64 ts[i].num,.slice A' ts[i].args.length ac]) ts[i]:=by
 obtain ⟨h0,vs,h1,h2⟩:=h
 obtain ⟨b,off,e,hb,hc⟩:=h1 i hi
 have ht:=h2 i hi
 obtain ⟨A',ac,hv,_⟩:=ht.open
 rw [hv] at hc ht
 exact ⟨b,off,A',ac,e,hb,hc 0 (by omega),hc 2 (by omega),hc 1 (by omega),hc 3 (by omega),ht⟩
mutual
def szOt:Ot→Nat | .mk _ _ nm ts=>nm.size+szOts ts
def szOts:List Ot→Nat | []=>0 | t::r=>1+szOt t+szOts r
end
theorem szOts_append:∀ (a b:List Ot),szOts (a++b)=szOts a+szOts b
 | [],b=>by simp [szOts]
 | t::a,b=>by
  rw [List.cons_append,szOts,szOts,szOts_append a b]
  omega
theorem szOts_take (ts:List Ot) (k:Nat) (h:k<ts.length):szOts (ts.take (k+1))=szOts (ts.take k)+1+szOt ts[k]:=by
 rw [List.take_succ_eq_append_getElem h,szOts_append,szOts,szOts]
 omega
theorem szOts_len:∀ (ts:List Ot),ts.length≤szOts ts
 | []=>Nat.le_refl _
 | t::r=>by
  have:=szOts_len r
  rw [szOts,List.length_cons]
  omega
theorem szOts_le (ts:List Ot) (k:Nat):szOts (ts.take k)+(ts.length - k)≤szOts ts:=by
 have h:=szOts_append (ts.take k) (ts.drop k)
 have h2:=szOts_len (ts.drop k)
 rw [List.take_append_drop] at h
 rw [List.length_drop] at h2
 omega
theorem szOt_part (ts:List Ot) (k:Nat) (h:k<ts.length):szOt ts[k]+1≤szOts ts:=by
 have h1:=szOts_take ts k h
 have h2:=szOts_le ts (k+1)
 omega
theorem szOt_eq (t:Ot):szOt t=t.name.size+szOts t.args:=by
 cases t
 rw [szOt]
 rfl
end Go.Proofs.YtfnblkcmcfofoaaGreatDoor
namespace Go.Proofs.YtfnblkcmcfofoaaGreatDoor
open Go.RowKit
inductive OtIn (w:World):(Nat→Prop)→Value→Ot→Prop where
 | mk {S:Nat→Prop} {k n:Int} {nm:ByteArray} {ts:List Ot} {A:Option Addr} {ac:Nat} (ga:Nat) (vs:Nat→Value) (Ss:Nat→Nat→Prop)
   (hnm:nm.size≤maxLen) (hm:ts.length≤maxLen)
   (hes:ts=[]∨A=some ⟨ga,0,none⟩∧S ga∧ElemRow 4 30 w ga ts.length vs)
   (hsub:∀ i,i<ts.length→∀ b,Ss i b→S b∧b≠ga) (hdis:∀ i j,i<ts.length→j<ts.length→i≠j→∀ b,Ss i b→¬ Ss j b)
   (hks:∀ i,(hi:i<ts.length)→OtIn w (Ss i) (vs i) ts[i]):OtIn w S (.agg #[.int .i64 k,.string nm,.int .i64 n,.slice A ts.length ac]) (.mk k n nm ts)
theorem OtIn.keep {w w':World} {S:Nat→Prop} {v:Value} {t:Ot} (h:OtIn w S v t) (hk:∀ b,S b→b<w.heap.size→w'.heap[b]?=w.heap[b]?):OtIn w' S v t:=by
 induction h with
 | mk ga vs Ss hnm hm hes hsub hdis _ ih=>
  refine .mk ga vs Ss hnm hm (hes.imp id fun ⟨h1,h2,h3⟩=>⟨h1,h2,h3.keep (hk _ h2 h3.lt)⟩) hsub hdis fun i hi=>ih i hi fun b hb=>hk b (hsub i hi b hb).1
theorem OtIn.wide {w:World} {S S':Nat→Prop} {v:Value} {t:Ot} (h:OtIn w S v t) (hS:∀ b,S b→S' b):OtIn w S' v t:=by
 cases h with
 | mk ga vs Ss hnm hm hes hsub hdis hks=>
  exact .mk ga vs Ss hnm hm (hes.imp id fun ⟨h1,h2,h3⟩=>⟨h1,hS _ h2,h3⟩) (fun i hi b hb=>⟨hS _ (hsub i hi b hb).1,(hsub i hi b hb).2⟩) hdis hks
theorem OtIn.at {w:World} {S:Nat→Prop} {v:Value} {t:Ot} (h:OtIn w S v t) (B:Nat) (hB:∀ b,S b→b<w.heap.size→b<B):OtAt w B v t:=by
 induction h with
 | @mk S k n nm ts A ac ga vs Ss hnm hm hes hsub hdis _ ih=>
  refine .mk vs hnm hm ?_ fun i hi=>ih i hi fun b hb=>hB b (hsub i hi b hb).1
  ·rcases hes with rfl | ⟨rfl,h2,h3⟩
   ·exact fun i hi=>absurd hi (by simp)
   ·exact h3.at _ (hB _ h2 h3.lt)
theorem OtIn.here {w:World} {S:Nat→Prop} {v:Value} {t:Ot} (h:OtIn w S v t):OtAt w w.heap.size v t:=h.at _ fun _ _ h=>h
def OtsIn (w:World) (S:Nat→Prop) (A:Option Addr) (ts:List Ot):Prop:=
 ts.length≤maxLen∧∃ (ga:Nat) (vs:Nat→Value) (Ss:Nat→Nat→Prop),(ts=[]∨A=some ⟨ga,0,none⟩∧S ga∧ElemRow 4 30 w ga ts.length vs)∧
  (∀ i,i<ts.length→∀ b,Ss i b→S b∧b≠ga)∧(∀ i j,i<ts.length→j<ts.length→i≠j→∀ b,Ss i b→¬ Ss j b)∧∀ i,(hi:i<ts.length)→OtIn w (Ss i) (vs i) ts[i]
theorem OtsIn.at {w:World} {S:Nat→Prop} {A:Option Addr} {ts:List Ot} (h:OtsIn w S A ts) (B:Nat) (hB:∀ b,S b→b<w.heap.size→b<B):OtsAt w B A ts:=by
 obtain ⟨h0,ga,vs,Ss,h1,h2,h3,h4⟩:=h
 refine ⟨h0,vs,?_,fun i hi=>(h4 i hi).at B fun b hb=>hB b (h2 i hi b hb).1⟩
 rcases h1 with rfl | ⟨rfl,h5,h6⟩
 ·exact fun i hi=>absurd hi (by simp)
 ·exact h6.at _ (hB _ h5 h6.lt)
theorem OtsIn.here {w:World} {S:Nat→Prop} {A:Option Addr} {ts:List Ot} (h:OtsIn w S A ts):OtsAt w w.heap.size A ts:=h.at _ fun _ _ h=>h
theorem OtsIn.keep {w w':World} {S:Nat→Prop} {A:Option Addr} {ts:List Ot} (h:OtsIn w S A ts) (hk:∀ b,S b→b<w.heap.size→w'.heap[b]?=w.heap[b]?):OtsIn w' S A ts:=by
 obtain ⟨h0,ga,vs,Ss,h1,h2,h3,h4⟩:=h
 exact ⟨h0,ga,vs,Ss,h1.imp id fun ⟨a,b,c⟩=>⟨a,b,c.keep (hk _ b c.lt)⟩,h2,h3,fun i hi=>(h4 i hi).keep fun b hb=>hk b (h2 i hi b hb).1⟩
theorem OtIn.of {w:World} {S Sa:Nat→Prop} {A:Option Addr} {ac:Nat} {t:Ot} (hnm:t.name.size≤maxLen) (ha:OtsIn w Sa A t.args) (hs:∀ b,Sa b→S b):
  OtIn w S (.agg #[.int .i64 t.kind,.string t.name,.int .i64 t.num,.slice A t.args.length ac]) t:=by
 obtain ⟨h0,ga,vs,Ss,h1,h2,h3,h4⟩:=ha
 cases t with
 | mk k n nm ts=>
  simp only [Ot.args,Ot.kind,Ot.num,Ot.name] at *
  exact .mk ga vs Ss hnm h0 (h1.imp id fun ⟨a,b,c⟩=>⟨a,hs _ b,c⟩) (fun i hi b hb=>⟨hs _ (h2 i hi b hb).1,(h2 i hi b hb).2⟩) h3 h4
theorem OtIn.open {w:World} {S:Nat→Prop} {v:Value} {t:Ot} (h:OtIn w S v t):
  ∃ A ac,v=.agg #[.int .i64 t.kind,.string t.name,.int .i64 t.num,.slice A t.args.length ac]∧t.name.size≤maxLen∧OtsIn w S A t.args:=by
 cases h with
 | mk ga vs Ss hnm hm hes hsub hdis hks=>
  exact ⟨_,_,rfl,hnm,hm,ga,vs,Ss,hes,hsub,hdis,hks⟩
end Go.Proofs.YtfnblkcmcfofoaaGreatDoor
end
namespace Go.Proofs.YtfnblkcmcfofoaaGreatDoor
section
set_option maxRecDepth 100000
open Go.ChangeShapes Go.WideShapes Go.ChangeAt Go.RowKit
theorem cellsOt:Tryz.prog.cellsOf 60=4:=by kernel_rfl
theorem cellsOts:Tryz.prog.cellsOf 58=1:=by kernel_rfl
theorem open_ot {H:Type} {enc:TypeId×Value→H} {W:World} (fuel:Nat):∀ {cs:List Value} {x:DataW H×List MemPlace},DataW.trod enc Tryz.prog W 0 (fun _=>true) true fuel 60 cs=some x→(∀ q ∈ x.2,q.block<W.heap.size)→
  ∃ c0 c1 c2 c3 t,cs=[c0,c1,c2,c3]∧OtAt W W.heap.size (.agg #[c0,c1,c2,c3]) t:=by
 induction fuel using Nat.strongRecOn with
 | ind fuel ih=>
  intro cs x h hlt
  obtain ⟨xs,n,rfl,rfl,hlen,hxl,hf⟩:=DataW.trod_struct Tryz.underlying60 h
  rw [cellsOt] at hlen
  have h0:DataW.trod enc Tryz.prog W 0 (fun _=>true) true n 3 ((cs.drop 0).take (Tryz.prog.cellsOf 3))=xs[0]?:=hf 0 _ rfl
  have hN:DataW.trod enc Tryz.prog W 0 (fun _=>true) true n 3 ((cs.drop 2).take (Tryz.prog.cellsOf 3))=xs[2]?:=hf 2 _ rfl
  have hM:DataW.trod enc Tryz.prog W 0 (fun _=>true) true n 9 ((cs.drop 1).take (Tryz.prog.cellsOf 9))=xs[1]?:=hf 1 _ rfl
  have h2:DataW.trod enc Tryz.prog W 0 (fun _=>true) true n 58 ((cs.drop 3).take (Tryz.prog.cellsOf 58))=xs[3]?:=hf 3 _ rfl
  rw [cellsInt] at h0 hN
  rw [cellsString] at hM
  rw [cellsOts] at h2
  match cs,hlen with
  | [c0,c1,c2,c3],_=>
  match xs,hxl with
  | [x0,x1,x2,x3],_=>
  simp at h0 hN hM h2
  obtain ⟨k,hk,_,_⟩:=DataW.trod_int Tryz.underlying3 h0
  obtain ⟨nn,hnn,_,hwf⟩:=DataW.trod_int Tryz.underlying3 hN
  obtain ⟨nm,hnm,_,hms⟩:=DataW.trod_string Tryz.underlying9 hM
  simp at hk hnn hnm
  subst hk hnn hnm
  rcases DataW.trod_slice Tryz.underlying58 h2 with ⟨hcs,_⟩ | ⟨a,len,cap,elems,rest,m,rfl,hcs,hx,_,hl,hm,hel,hes,_,_⟩
  ·simp at hcs
   subst hcs
   exact ⟨_,_,_,_,.mk k nn nm [],rfl,OtAt.of (t:=.mk k nn nm []) (A:=none) (ac:=0) hms ⟨Nat.zero_le _,fun _=>.bool false,fun i hi=>absurd hi (by simp [Ot.args]),fun i hi=>absurd hi (by simp [Ot.args])⟩⟩
  ·simp at hcs
   subst hcs
   have hxe:x3.2=MemPlace.row a ((elems.length+rest.length) * 4)++(elems++rest).flatMap (·.2):=by rw [hx];simp only [cellsOt]
   have each:∀ i,(hi:i<len)→∃ p:Value×Ot,OtAt W W.heap.size p.1 p.2∧∀ j,j<4→(partAt p.1 j).isSome=true∧W.cell? ((a.add (i * 4)).add j)=partAt p.1 j:=fun i hi=>by
    have he:=hes i hi
    rw [cellsOt,List.getElem?_eq_getElem (by omega)] at he
    obtain ⟨cs',hc',ht'⟩:=Option.bind_eq_some_iff.1 he
    obtain ⟨_,hcl,hcat⟩:=World.cells?_some hc'
    obtain ⟨c0,c1,c2,c3,t,rfl,ht⟩:=ih m (by omega) ht' (fun q hq=>hlt q (by
     simp only [List.flatMap_cons,List.flatMap_nil,List.append_nil,List.mem_append]
     right
     right
     right
     rw [hxe,List.mem_append]
     right
     exact List.mem_flatMap.2 ⟨_,List.mem_append_left _ (List.getElem_mem (by omega)),hq⟩))
    refine ⟨(.agg #[c0,c1,c2,c3],t),ht,fun j hj=>?_⟩
    have:j=0∨j=1∨j=2∨j=3:=by omega
    rcases this with rfl | rfl | rfl | rfl
    ·exact ⟨rfl,hcat 0 (by omega)⟩
    ·exact ⟨rfl,hcat 1 (by omega)⟩
    ·exact ⟨rfl,hcat 2 (by omega)⟩
    ·exact ⟨rfl,hcat 3 (by omega)⟩
   have hf2:∃ f:Nat→Value×Ot,∀ i,i<len→OtAt W W.heap.size (f i).1 (f i).2∧∀ j,j<4→(partAt (f i).1 j).isSome=true∧W.cell? ((a.add (i * 4)).add j)=partAt (f i).1 j:=by
    refine ⟨fun i=>if hi:i<len then Classical.choose (each i hi) else (.bool false,.mk 0 0 ⟨#[]⟩ []),fun i hi=>?_⟩
    dsimp only
    rw [dif_pos hi]
    exact Classical.choose_spec (each i hi)
   obtain ⟨f,hff⟩:=hf2
   have hll:((List.range len).map fun i=>(f i).2).length=len:=by simp
   refine ⟨_,_,_,_,.mk k nn nm ((List.range len).map fun i=>(f i).2),rfl,?_⟩
   have:=OtAt.of (w:=W) (B:=W.heap.size) (ac:=cap) (A:=some a) (t:=.mk k nn nm ((List.range len).map fun i=>(f i).2)) hms ⟨by simp only [Ot.args];rw [hll];omega,fun i=>(f i).1,fun i hi=>?_,fun i hi=>?_⟩
   ·simp only [Ot.kind,Ot.num,Ot.name,Ot.args] at this
    rw [hll] at this
    exact this
   ·simp only [Ot.args] at hi
    rw [hll] at hi
    have h3:=(hff i hi).2
    have hs:=(hff 0 (by omega)).2 0 (by omega)
    rw [← hs.2] at hs
    obtain ⟨v0,hv0⟩:=Option.isSome_iff_exists.1 hs.1
    obtain ⟨b,off,spot⟩:=a
    have hspot:spot=none:=by simpa [Addr.add] using World.cell?_spot hv0
    subst hspot
    refine ⟨b,off,rfl,?_,fun j hj=>?_⟩
    ·refine hlt (.cell b off) ?_
     simp only [List.flatMap_cons,List.flatMap_nil,List.append_nil,List.mem_append]
     right
     right
     right
     rw [hxe,List.mem_append]
     left
     exact MemPlace.mem_row.2 ⟨0,by omega,by simp⟩
    ·have:=(h3 j hj).2
     rw [add_plain,add_plain] at this
     exact this
   ·simp only [Ot.args] at hi ⊢
    rw [hll] at hi
    simp only [List.getElem_map,List.getElem_range]
    exact (hff i hi).1
theorem open_optic_arg {H:Type} {enc:TypeId×Value→H} {W:World} {base:Nat} {v:Value} {d:DataW H} {p:List MemPlace} (hv:Value.okWide Tryz.prog W .any base 60 v) (h:DataW.Trod enc Tryz.prog W 0 (fun _=>true) true 60 v d p) (hlt:∀ x ∈ p,x.block<W.heap.size):
  ∃ t,OtAt W W.heap.size v t:=by
 obtain ⟨cs,rfl,_⟩:=okWide_struct Tryz.underlying60 hv
 obtain ⟨fuel,hf⟩:=h
 obtain ⟨c0,c1,c2,c3,t,hcs,ht⟩:=open_ot fuel hf hlt
 have:cs=#[c0,c1,c2,c3]:=Array.ext' (by simpa [Value.cells] using hcs)
 subst this
 exact ⟨t,ht⟩
end
end Go.Proofs.YtfnblkcmcfofoaaGreatDoor
section
namespace Go.Proofs.YtfnblkcmcfofoaaGreatDoor
open Go.RowKit
inductive Va where
 | mk (k n:Int) (nm:ByteArray) (ls:List ByteArray) (ts:List Va)
def Va.kind:Va→Int | .mk k _ _ _ _=>k
def Va.num:Va→Int | .mk _ n _ _ _=>n
def Va.name:Va→ByteArray | .mk _ _ nm _ _=>nm
def Va.labels:Va→List ByteArray | .mk _ _ _ ls _=>ls
def Va.args:Va→List Va | .mk _ _ _ _ ts=>ts
theorem Va.ind {P:Va→Prop} (h:∀ k n nm ls (ts:List Va),(∀ i,(hi:i<ts.length)→P ts[i])→P (.mk k n nm ls ts)) (t:Va):P t:=
 Va.rec (motive_1:=P) (motive_2:=fun ts=>∀ i,(hi:i<ts.length)→P ts[i]) h (fun i hi=>absurd hi (Nat.not_lt_zero i))
  (fun a r ha hr i hi=>match i,hi with | 0,_=>ha | i+1,hi=>hr i (Nat.lt_of_succ_lt_succ hi)) t
inductive VaAt (w:World) (B:Nat):Value→Va→Prop where
 | mk {k n:Int} {nm:ByteArray} {ls:List ByteArray} {ts:List Va} {L A:Option Addr} {lc ac:Nat} (vs:Nat→Value) (hnm:nm.size≤maxLen) (hn:ls.length≤maxLen) (hz:∀ i,(h:i<ls.length)→ls[i].size≤maxLen) (hm:ts.length≤maxLen) (hls:StrsAt w B L ls) (hes:ElemsAt 5 w B A ts.length vs)
   (hks:∀ i,(hi:i<ts.length)→VaAt w B (vs i) ts[i]):VaAt w B (.agg #[.int .i64 k,.int .i64 n,.string nm,.slice L ls.length lc,.slice A ts.length ac]) (.mk k n nm ls ts)
theorem VaAt.keep {w w':World} {B:Nat} {v:Value} {t:Va} (h:VaAt w B v t) (hk:∀ p:Addr,p.block<B→w'.cell? p=w.cell? p):VaAt w' B v t:=by
 induction h with
 | mk vs hnm hn hz hm hls hes _ ih=>exact .mk vs hnm hn hz hm (hls.keep hk) (hes.keep hk) ih
theorem VaAt.more {w:World} {B B':Nat} {v:Value} {t:Va} (h:VaAt w B v t) (hB:B≤B'):VaAt w B' v t:=by
 induction h with
 | mk vs hnm hn hz hm hls hes _ ih=>exact .mk vs hnm hn hz hm (hls.more hB) (hes.more hB) ih
theorem VaAt.lift {w w':World} {B:Nat} {v:Value} {t:Va} (h:VaAt w B v t) (hb:Below B w w'):VaAt w' B v t:=h.keep fun _ hp=>hb.cell hp
theorem VaAt.up {w w':World} {v:Value} {t:Va} (h:VaAt w w.heap.size v t) (hb:Below w.heap.size w w'):VaAt w' w'.heap.size v t:=(h.lift hb).more hb.size
def VasAt (w:World) (B:Nat) (A:Option Addr) (ts:List Va):Prop:=ts.length≤maxLen∧∃ vs:Nat→Value,ElemsAt 5 w B A ts.length vs∧∀ i,(hi:i<ts.length)→VaAt w B (vs i) ts[i]
theorem VasAt.keep {w w':World} {B:Nat} {A:Option Addr} {ts:List Va} (h:VasAt w B A ts) (hk:∀ p:Addr,p.block<B→w'.cell? p=w.cell? p):VasAt w' B A ts:=by
 obtain ⟨h0,vs,h1,h2⟩:=h
 exact ⟨h0,vs,h1.keep hk,fun i hi=>(h2 i hi).keep hk⟩
theorem VasAt.more {w:World} {B B':Nat} {A:Option Addr} {ts:List Va} (h:VasAt w B A ts) (hB:B≤B'):VasAt w B' A ts:=by
 obtain ⟨h0,vs,h1,h2⟩:=h
 exact ⟨h0,vs,h1.more hB,fun i hi=>(h2 i hi).more hB⟩
theorem VasAt.below {w w':World} {B:Nat} {A:Option Addr} {ts:List Va} (h:VasAt w B A ts) (hb:Below B w w'):VasAt w' B A ts:=h.keep fun _ hp=>hb.cell hp
theorem VasAt.up {w w':World} {A:Option Addr} {ts:List Va} (h:VasAt w w.heap.size A ts) (hb:Below w.heap.size w w'):VasAt w' w'.heap.size A ts:=(h.below hb).more hb.size
theorem VaAt.open {w:World} {B:Nat} {v:Value} {t:Va} (h:VaAt w B v t):∃ L lc A ac,v=.agg #[.int .i64 t.kind,.int .i64 t.num,.string t.name,.slice L t.labels.length lc,.slice A t.args.length ac]∧t.name.size≤maxLen∧t.labels.length≤maxLen∧(∀ i,(h:i<t.labels.length)→t.labels[i].size≤maxLen)∧StrsAt w B L t.labels∧VasAt w B A t.args:=by
 cases h with
 | mk vs hnm hn hz hm hls hes hks=>exact ⟨_,_,_,_,rfl,hnm,hn,hz,hls,hm,vs,hes,hks⟩
theorem VaAt.of {w:World} {B lc ac:Nat} {L A:Option Addr} {t:Va} (hnm:t.name.size≤maxLen) (hn:t.labels.length≤maxLen) (hz:∀ i,(h:i<t.labels.length)→t.labels[i].size≤maxLen) (hl:StrsAt w B L t.labels) (ha:VasAt w B A t.args):VaAt w B (.agg #[.int .i64 t.kind,.int .i64 t.num,.string t.name,.slice L t.labels.length lc,.slice A t.args.length ac]) t:=by
 obtain ⟨h0,vs,h1,h2⟩:=ha
 cases t
 exact .mk vs hnm hn hz h0 hl h1 h2
theorem VasAt.elem {w:World} {B:Nat} {A:Option Addr} {ts:List Va} (h:VasAt w B A ts) (i:Nat) (hi:i<ts.length):
  ∃ b off L lc A' ac,A=some ⟨b,off,none⟩∧b<B∧w.cell? ⟨b,off+i * 5,none⟩=some (.int .i64 ts[i].kind)∧w.cell? ⟨b,off+i * 5+1,none⟩=some (.int .i64 ts[i].num)∧w.cell? ⟨b,off+i * 5+2,none⟩=some (.string ts[i].name)∧
   w.cell? ⟨b,off+i * 5+3,none⟩=some (.slice L ts[i].labels.length lc)∧w.cell? ⟨b,off+i * 5+4,none⟩=some (.slice A' ts[i].args.length ac)∧
   VaAt w B (.agg #[.int .i64 ts[i].kind,.int .i64 ts[i].num,.string ts[i].name,.slice L ts[i].labels.length lc,.slice A' ts[i].args.length ac]) ts[i]:=by
 obtain ⟨h0,vs,h1,h2⟩:=h
 obtain ⟨b,off,e,hb,hc⟩:=h1 i hi
 have ht:=h2 i hi
 obtain ⟨L,lc,A',ac,hv,_⟩:=ht.open
 rw [hv] at hc ht
 exact ⟨b,off,L,lc,A',ac,e,hb,hc 0 (by omega),hc 1 (by omega),hc 2 (by omega),hc 3 (by omega),hc 4 (by omega),ht⟩
mutual
def szVa:Va→Nat | .mk _ _ nm ls ts=>nm.size+(ls.length+sumSizes ls)+szVas ts
def szVas:List Va→Nat | []=>0 | t::r=>1+szVa t+szVas r
end
theorem szVas_append:∀ (a b:List Va),szVas (a++b)=szVas a+szVas b
 | [],b=>by simp [szVas]
 | t::a,b=>by
  rw [List.cons_append,szVas,szVas,szVas_append a b]
  omega
theorem szVas_take (ts:List Va) (k:Nat) (h:k<ts.length):szVas (ts.take (k+1))=szVas (ts.take k)+1+szVa ts[k]:=by
 rw [List.take_succ_eq_append_getElem h,szVas_append,szVas,szVas]
 omega
theorem szVas_len:∀ (ts:List Va),ts.length≤szVas ts
 | []=>Nat.le_refl _
 | t::r=>by
  have:=szVas_len r
  rw [szVas,List.length_cons]
  omega
theorem szVas_le (ts:List Va) (k:Nat):szVas (ts.take k)+(ts.length - k)≤szVas ts:=by
 have h:=szVas_append (ts.take k) (ts.drop k)
 have h2:=szVas_len (ts.drop k)
 rw [List.take_append_drop] at h
 rw [List.length_drop] at h2
 omega
theorem szVa_part (ts:List Va) (k:Nat) (h:k<ts.length):szVa ts[k]+1≤szVas ts:=by
 have h1:=szVas_take ts k h
 have h2:=szVas_le ts (k+1)
 omega
theorem szVa_eq (t:Va):szVa t=t.name.size+(t.labels.length+sumSizes t.labels)+szVas t.args:=by
 cases t
 rw [szVa]
 rfl
end Go.Proofs.YtfnblkcmcfofoaaGreatDoor
namespace Go.Proofs.YtfnblkcmcfofoaaGreatDoor
open Go.RowKit
inductive VaIn (w:World):(Nat→Prop)→Value→Va→Prop where
 | mk {S:Nat→Prop} {k n:Int} {nm:ByteArray} {ls:List ByteArray} {ts:List Va} {L A:Option Addr} {lc ac:Nat} (gl ga:Nat) (vs:Nat→Value) (Ss:Nat→Nat→Prop)
   (hnm:nm.size≤maxLen) (hn:ls.length≤maxLen) (hz:∀ i,(h:i<ls.length)→ls[i].size≤maxLen) (hm:ts.length≤maxLen)
   (hls:ls=[]∨L=some ⟨gl,0,none⟩∧S gl∧RowStrs w gl ls) (hes:ts=[]∨A=some ⟨ga,0,none⟩∧S ga∧ElemRow 5 41 w ga ts.length vs) (hne:gl≠ga)
   (hsub:∀ i,i<ts.length→∀ b,Ss i b→S b∧b≠gl∧b≠ga) (hdis:∀ i j,i<ts.length→j<ts.length→i≠j→∀ b,Ss i b→¬ Ss j b)
   (hks:∀ i,(hi:i<ts.length)→VaIn w (Ss i) (vs i) ts[i]):VaIn w S (.agg #[.int .i64 k,.int .i64 n,.string nm,.slice L ls.length lc,.slice A ts.length ac]) (.mk k n nm ls ts)
theorem VaIn.keep {w w':World} {S:Nat→Prop} {v:Value} {t:Va} (h:VaIn w S v t) (hk:∀ b,S b→b<w.heap.size→w'.heap[b]?=w.heap[b]?):VaIn w' S v t:=by
 induction h with
 | mk gl ga vs Ss hnm hn hz hm hls hes hne hsub hdis _ ih=>
  refine .mk gl ga vs Ss hnm hn hz hm (hls.imp id fun ⟨h1,h2,h3⟩=>⟨h1,h2,h3.same (hk _ h2 h3.lt)⟩) (hes.imp id fun ⟨h1,h2,h3⟩=>⟨h1,h2,h3.keep (hk _ h2 h3.lt)⟩) hne hsub hdis fun i hi=>ih i hi fun b hb=>hk b (hsub i hi b hb).1
theorem VaIn.wide {w:World} {S S':Nat→Prop} {v:Value} {t:Va} (h:VaIn w S v t) (hS:∀ b,S b→S' b):VaIn w S' v t:=by
 cases h with
 | mk gl ga vs Ss hnm hn hz hm hls hes hne hsub hdis hks=>
  exact .mk gl ga vs Ss hnm hn hz hm (hls.imp id fun ⟨h1,h2,h3⟩=>⟨h1,hS _ h2,h3⟩) (hes.imp id fun ⟨h1,h2,h3⟩=>⟨h1,hS _ h2,h3⟩) hne (fun i hi b hb=>⟨hS _ (hsub i hi b hb).1,(hsub i hi b hb).2⟩) hdis hks
theorem VaIn.at {w:World} {S:Nat→Prop} {v:Value} {t:Va} (h:VaIn w S v t) (B:Nat) (hB:∀ b,S b→b<w.heap.size→b<B):VaAt w B v t:=by
 induction h with
 | @mk S k n nm ls ts L A lc ac gl ga vs Ss hnm hn hz hm hls hes hne hsub hdis _ ih=>
  refine .mk vs hnm hn hz hm ?_ ?_ fun i hi=>ih i hi fun b hb=>hB b (hsub i hi b hb).1
  ·rcases hls with rfl | ⟨rfl,h2,h3⟩
   ·exact StrsAt.empty _ _ _
   ·exact h3.at _ (hB _ h2 h3.lt)
  ·rcases hes with rfl | ⟨rfl,h2,h3⟩
   ·exact fun i hi=>absurd hi (by simp)
   ·exact h3.at _ (hB _ h2 h3.lt)
theorem VaIn.here {w:World} {S:Nat→Prop} {v:Value} {t:Va} (h:VaIn w S v t):VaAt w w.heap.size v t:=h.at _ fun _ _ h=>h
def VasIn (w:World) (S:Nat→Prop) (A:Option Addr) (ts:List Va):Prop:=
 ts.length≤maxLen∧∃ (ga:Nat) (vs:Nat→Value) (Ss:Nat→Nat→Prop),(ts=[]∨A=some ⟨ga,0,none⟩∧S ga∧ElemRow 5 41 w ga ts.length vs)∧
  (∀ i,i<ts.length→∀ b,Ss i b→S b∧b≠ga)∧(∀ i j,i<ts.length→j<ts.length→i≠j→∀ b,Ss i b→¬ Ss j b)∧∀ i,(hi:i<ts.length)→VaIn w (Ss i) (vs i) ts[i]
theorem VasIn.at {w:World} {S:Nat→Prop} {A:Option Addr} {ts:List Va} (h:VasIn w S A ts) (B:Nat) (hB:∀ b,S b→b<w.heap.size→b<B):VasAt w B A ts:=by
 obtain ⟨h0,ga,vs,Ss,h1,h2,h3,h4⟩:=h
 refine ⟨h0,vs,?_,fun i hi=>(h4 i hi).at B fun b hb=>hB b (h2 i hi b hb).1⟩
 rcases h1 with rfl | ⟨rfl,h5,h6⟩
 ·exact fun i hi=>absurd hi (by simp)
 ·exact h6.at _ (hB _ h5 h6.lt)
theorem VasIn.here {w:World} {S:Nat→Prop} {A:Option Addr} {ts:List Va} (h:VasIn w S A ts):VasAt w w.heap.size A ts:=h.at _ fun _ _ h=>h
theorem VasIn.keep {w w':World} {S:Nat→Prop} {A:Option Addr} {ts:List Va} (h:VasIn w S A ts) (hk:∀ b,S b→b<w.heap.size→w'.heap[b]?=w.heap[b]?):VasIn w' S A ts:=by
 obtain ⟨h0,ga,vs,Ss,h1,h2,h3,h4⟩:=h
 exact ⟨h0,ga,vs,Ss,h1.imp id fun ⟨a,b,c⟩=>⟨a,b,c.keep (hk _ b c.lt)⟩,h2,h3,fun i hi=>(h4 i hi).keep fun b hb=>hk b (h2 i hi b hb).1⟩
theorem VaIn.of {w:World} {S Sa:Nat→Prop} {L A:Option Addr} {lc ac gl:Nat} {t:Va} (hnm:t.name.size≤maxLen) (hn:t.labels.length≤maxLen) (hz:∀ i,(h:i<t.labels.length)→t.labels[i].size≤maxLen)
  (hl:t.labels=[]∨L=some ⟨gl,0,none⟩∧S gl∧RowStrs w gl t.labels) (ha:VasIn w Sa A t.args) (hs:∀ b,Sa b→S b∧b≠gl):
  VaIn w S (.agg #[.int .i64 t.kind,.int .i64 t.num,.string t.name,.slice L t.labels.length lc,.slice A t.args.length ac]) t:=by
 obtain ⟨h0,ga,vs,Ss,h1,h2,h3,h4⟩:=ha
 cases t with
 | mk k n nm ls ts=>
  simp only [Va.labels,Va.args,Va.kind,Va.num,Va.name] at *
  rcases h1 with rfl | ⟨rfl,h5,h6⟩
  ·exact .mk gl (gl+1) vs Ss hnm hn hz h0 hl (.inl rfl) (by omega) (fun i hi=>absurd hi (by simp)) (fun i _ hi=>absurd hi (by simp)) h4
  ·exact .mk gl ga vs Ss hnm hn hz h0 hl (.inr ⟨rfl,(hs _ h5).1,h6⟩) (fun e=>(hs _ h5).2 e.symm) (fun i hi b hb=>⟨(hs _ (h2 i hi b hb).1).1,(hs _ (h2 i hi b hb).1).2,(h2 i hi b hb).2⟩) h3 h4
theorem VaIn.open {w:World} {S:Nat→Prop} {v:Value} {t:Va} (h:VaIn w S v t):
  ∃ L lc A ac gl,v=.agg #[.int .i64 t.kind,.int .i64 t.num,.string t.name,.slice L t.labels.length lc,.slice A t.args.length ac]∧t.name.size≤maxLen∧t.labels.length≤maxLen∧(∀ i,(h:i<t.labels.length)→t.labels[i].size≤maxLen)∧
   (t.labels=[]∨L=some ⟨gl,0,none⟩∧S gl∧RowStrs w gl t.labels)∧VasIn w (fun b=>S b∧b≠gl) A t.args:=by
 cases h with
 | mk gl ga vs Ss hnm hn hz hm hls hes hne hsub hdis hks=>
  exact ⟨_,_,_,_,gl,rfl,hnm,hn,hz,hls,hm,ga,vs,Ss,hes.imp id fun ⟨a,b,c⟩=>⟨a,⟨b,fun e=>hne e.symm⟩,c⟩,fun i hi b hb=>⟨⟨(hsub i hi b hb).1,(hsub i hi b hb).2.1⟩,(hsub i hi b hb).2.2⟩,hdis,hks⟩
end Go.Proofs.YtfnblkcmcfofoaaGreatDoor
end
namespace Go.Proofs.YtfnblkcmcfofoaaGreatDoor
section
open Go.RowKit
mutual
def numsB:Va→Bool | .mk _ n _ _ ts=>decide (-9223372036854775808≤n∧n≤9223372036854775807)&&numsBs ts
def numsBs:List Va→Bool | []=>true | t::r=>numsB t&&numsBs r
end
theorem numsBs_all:∀ (ts:List Va),(∀ i,(h:i<ts.length)→numsB ts[i]=true)→numsBs ts=true
 | [],_=>by rw [numsBs]
 | t::r,h=>by
  rw [numsBs,show numsB t=true from h 0 (by simp),numsBs_all r fun i hi=>h (i+1) (by simpa using hi)]
  rfl
theorem numsBs_at:∀ (ts:List Va),numsBs ts=true→∀ i,(h:i<ts.length)→numsB ts[i]=true
 | [],_,i,h=>absurd h (by simp)
 | t::r,e,i,h=>by
  rw [numsBs,Bool.and_eq_true] at e
  cases i with
  | zero=>exact e.1
  | succ i=>exact numsBs_at r e.2 i (by simpa using h)
theorem numsB_mk (k n:Int) (nm:ByteArray) (ls:List ByteArray) (ts:List Va) (h:-9223372036854775808≤n∧n≤9223372036854775807) (h2:∀ i,(h:i<ts.length)→numsB ts[i]=true):numsB (.mk k n nm ls ts)=true:=by
 rw [numsB,numsBs_all ts h2]
 simp [h]
theorem numsB_of (t:Va) (h:numsB t=true):(-9223372036854775808≤t.num∧t.num≤9223372036854775807)∧∀ i,(h:i<t.args.length)→numsB t.args[i]=true:=by
 cases t
 rw [numsB,Bool.and_eq_true,decide_eq_true_eq] at h
 exact ⟨h.1,numsBs_at _ h.2⟩
end
section
set_option maxRecDepth 100000
open Go.ChangeShapes Go.WideShapes Go.ChangeAt Go.RowKit
theorem num_of_wf {n:Int} (h:(Lit.int .i64 n).wf=true):-9223372036854775808≤n∧n≤9223372036854775807:=by
 have:=bounds_int h
 omega
theorem cellsVa:Tryz.prog.cellsOf 63=5:=by kernel_rfl
theorem cellsVas:Tryz.prog.cellsOf 61=1:=by kernel_rfl
theorem open_va {H:Type} {enc:TypeId×Value→H} {W:World} (fuel:Nat):∀ {cs:List Value} {x:DataW H×List MemPlace},DataW.trod enc Tryz.prog W 0 (fun _=>true) true fuel 63 cs=some x→(∀ q ∈ x.2,q.block<W.heap.size)→
  ∃ c0 c1 c2 c3 c4 t,cs=[c0,c1,c2,c3,c4]∧VaAt W W.heap.size (.agg #[c0,c1,c2,c3,c4]) t∧numsB t=true:=by
 induction fuel using Nat.strongRecOn with
 | ind fuel ih=>
  intro cs x h hlt
  obtain ⟨xs,n,rfl,rfl,hlen,hxl,hf⟩:=DataW.trod_struct Tryz.underlying63 h
  rw [cellsVa] at hlen
  have h0:DataW.trod enc Tryz.prog W 0 (fun _=>true) true n 3 ((cs.drop 0).take (Tryz.prog.cellsOf 3))=xs[0]?:=hf 0 _ rfl
  have hN:DataW.trod enc Tryz.prog W 0 (fun _=>true) true n 3 ((cs.drop 1).take (Tryz.prog.cellsOf 3))=xs[1]?:=hf 1 _ rfl
  have hM:DataW.trod enc Tryz.prog W 0 (fun _=>true) true n 9 ((cs.drop 2).take (Tryz.prog.cellsOf 9))=xs[2]?:=hf 2 _ rfl
  have h1:DataW.trod enc Tryz.prog W 0 (fun _=>true) true n 24 ((cs.drop 3).take (Tryz.prog.cellsOf 24))=xs[3]?:=hf 3 _ rfl
  have h2:DataW.trod enc Tryz.prog W 0 (fun _=>true) true n 61 ((cs.drop 4).take (Tryz.prog.cellsOf 61))=xs[4]?:=hf 4 _ rfl
  rw [cellsInt] at h0 hN
  rw [cellsString] at hM
  rw [cellsStrs] at h1
  rw [cellsVas] at h2
  match cs,hlen with
  | [c0,c1,c2,c3,c4],_=>
  match xs,hxl with
  | [x0,x1,x2,x3,x4],_=>
  simp at h0 hN hM h1 h2
  obtain ⟨k,hk,_,_⟩:=DataW.trod_int Tryz.underlying3 h0
  obtain ⟨nn,hnn,_,hwf⟩:=DataW.trod_int Tryz.underlying3 hN
  have hnb:=num_of_wf hwf
  obtain ⟨nm,hnm,_,hms⟩:=DataW.trod_string Tryz.underlying9 hM
  obtain ⟨L,ls,lc,hL,hls,hn,hz⟩:=open_labels h1 (fun q hq=>hlt q (by simp [hq]))
  simp at hk hnn hnm hL
  subst hk hnn hnm hL
  rcases DataW.trod_slice Tryz.underlying61 h2 with ⟨hcs,_⟩ | ⟨a,len,cap,elems,rest,m,rfl,hcs,hx,_,hl,hm,hel,hes,_,_⟩
  ·simp at hcs
   subst hcs
   exact ⟨_,_,_,_,_,.mk k nn nm ls [],rfl,VaAt.of (t:=.mk k nn nm ls []) (A:=none) (ac:=0) hms hn hz hls ⟨Nat.zero_le _,fun _=>.bool false,fun i hi=>absurd hi (by simp [Va.args]),fun i hi=>absurd hi (by simp [Va.args])⟩,numsB_mk _ _ _ _ _ hnb (fun i hi=>absurd hi (by simp))⟩
  ·simp at hcs
   subst hcs
   have hxe:x4.2=MemPlace.row a ((elems.length+rest.length) * 5)++(elems++rest).flatMap (·.2):=by rw [hx];simp only [cellsVa]
   have each:∀ i,(hi:i<len)→∃ p:Value×Va,(VaAt W W.heap.size p.1 p.2∧numsB p.2=true)∧∀ j,j<5→(partAt p.1 j).isSome=true∧W.cell? ((a.add (i * 5)).add j)=partAt p.1 j:=fun i hi=>by
    have he:=hes i hi
    rw [cellsVa,List.getElem?_eq_getElem (by omega)] at he
    obtain ⟨cs',hc',ht'⟩:=Option.bind_eq_some_iff.1 he
    obtain ⟨_,hcl,hcat⟩:=World.cells?_some hc'
    obtain ⟨c0,c1,c2,c3,c4,t,rfl,ht⟩:=ih m (by omega) ht' (fun q hq=>hlt q (by
     simp only [List.flatMap_cons,List.flatMap_nil,List.append_nil,List.mem_append]
     right
     right
     right
     right
     rw [hxe,List.mem_append]
     right
     exact List.mem_flatMap.2 ⟨_,List.mem_append_left _ (List.getElem_mem (by omega)),hq⟩))
    refine ⟨(.agg #[c0,c1,c2,c3,c4],t),ht,fun j hj=>?_⟩
    have:j=0∨j=1∨j=2∨j=3∨j=4:=by omega
    rcases this with rfl | rfl | rfl | rfl | rfl
    ·exact ⟨rfl,hcat 0 (by omega)⟩
    ·exact ⟨rfl,hcat 1 (by omega)⟩
    ·exact ⟨rfl,hcat 2 (by omega)⟩
    ·exact ⟨rfl,hcat 3 (by omega)⟩
    ·exact ⟨rfl,hcat 4 (by omega)⟩
   have hf2:∃ f:Nat→Value×Va,∀ i,i<len→(VaAt W W.heap.size (f i).1 (f i).2∧numsB (f i).2=true)∧∀ j,j<5→(partAt (f i).1 j).isSome=true∧W.cell? ((a.add (i * 5)).add j)=partAt (f i).1 j:=by
    refine ⟨fun i=>if hi:i<len then Classical.choose (each i hi) else (.bool false,.mk 0 0 ⟨#[]⟩ [] []),fun i hi=>?_⟩
    dsimp only
    rw [dif_pos hi]
    exact Classical.choose_spec (each i hi)
   obtain ⟨f,hff⟩:=hf2
   have hll:((List.range len).map fun i=>(f i).2).length=len:=by simp
   refine ⟨_,_,_,_,_,.mk k nn nm ls ((List.range len).map fun i=>(f i).2),rfl,?_,numsB_mk _ _ _ _ _ hnb (fun i hi=>by simp only [List.getElem_map,List.getElem_range];exact (hff i (by simpa using hi)).1.2)⟩
   have:=VaAt.of (w:=W) (B:=W.heap.size) (lc:=lc) (ac:=cap) (L:=L) (A:=some a) (t:=.mk k nn nm ls ((List.range len).map fun i=>(f i).2)) hms hn hz hls ⟨by simp only [Va.args];rw [hll];omega,fun i=>(f i).1,fun i hi=>?_,fun i hi=>?_⟩
   ·simp only [Va.kind,Va.num,Va.name,Va.labels,Va.args] at this
    rw [hll] at this
    exact this
   ·simp only [Va.args] at hi
    rw [hll] at hi
    have h3:=(hff i hi).2
    have hs:=(hff 0 (by omega)).2 0 (by omega)
    rw [← hs.2] at hs
    obtain ⟨v0,hv0⟩:=Option.isSome_iff_exists.1 hs.1
    obtain ⟨b,off,spot⟩:=a
    have hspot:spot=none:=by simpa [Addr.add] using World.cell?_spot hv0
    subst hspot
    refine ⟨b,off,rfl,?_,fun j hj=>?_⟩
    ·refine hlt (.cell b off) ?_
     simp only [List.flatMap_cons,List.flatMap_nil,List.append_nil,List.mem_append]
     right
     right
     right
     right
     rw [hxe,List.mem_append]
     left
     exact MemPlace.mem_row.2 ⟨0,by omega,by simp⟩
    ·have:=(h3 j hj).2
     rw [add_plain,add_plain] at this
     exact this
   ·simp only [Va.args] at hi ⊢
    rw [hll] at hi
    simp only [List.getElem_map,List.getElem_range]
    exact (hff i hi).1.1
theorem open_value_arg {H:Type} {enc:TypeId×Value→H} {W:World} {base:Nat} {v:Value} {d:DataW H} {p:List MemPlace} (hv:Value.okWide Tryz.prog W .any base 63 v) (h:DataW.Trod enc Tryz.prog W 0 (fun _=>true) true 63 v d p) (hlt:∀ x ∈ p,x.block<W.heap.size):
  ∃ t,VaAt W W.heap.size v t∧numsB t=true:=by
 obtain ⟨cs,rfl,_⟩:=okWide_struct Tryz.underlying63 hv
 obtain ⟨fuel,hf⟩:=h
 obtain ⟨c0,c1,c2,c3,c4,t,hcs,ht⟩:=open_va fuel hf hlt
 have:cs=#[c0,c1,c2,c3,c4]:=Array.ext' (by simpa [Value.cells] using hcs)
 subst this
 exact ⟨t,ht⟩
end
end Go.Proofs.YtfnblkcmcfofoaaGreatDoor
