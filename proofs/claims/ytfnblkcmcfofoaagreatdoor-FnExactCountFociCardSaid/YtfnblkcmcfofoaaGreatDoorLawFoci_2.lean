/- Lemmas: TyIn, OpenTy. -/
import Derived.Test.YtfnblkcmcfofoaaGreatDoorLawFoci_1
import Derived.Test.YtfnblkcmcfofoaaGreatDoorProg

section
namespace Go.Proofs.YtfnblkcmcfofoaaGreatDoor
open Go.RowKit
inductive Ty where
 | mk (k:Int) (ls:List ByteArray) (ts:List Ty)
def Ty.kind:Ty→Int | .mk k _ _=>k
def Ty.labels:Ty→List ByteArray | .mk _ ls _=>ls
def Ty.args:Ty→List Ty | .mk _ _ ts=>ts
theorem Ty.ind {P:Ty→Prop} (h:∀ k ls (ts:List Ty),(∀ i,(hi:i<ts.length)→P ts[i])→P (.mk k ls ts)) (t:Ty):P t:=
 Ty.rec (motive_1:=P) (motive_2:=fun ts=>∀ i,(hi:i<ts.length)→P ts[i]) h (fun i hi=>absurd hi (Nat.not_lt_zero i))
  (fun a r ha hr i hi=>match i,hi with | 0,_=>ha | i+1,hi=>hr i (Nat.lt_of_succ_lt_succ hi)) t
theorem StrsAt.up' {w w':World} {A:Option Addr} {ss:List ByteArray} (h:StrsAt w w.heap.size A ss) (hb:Below w.heap.size w w'):StrsAt w' w'.heap.size A ss:=(h.below hb).more hb.size
def partAt (v:Value) (j:Nat):Option Value:=match v with | .agg cs=>cs[j]? | _=>none
def ElemsAt (sz:Nat) (w:World) (B:Nat) (A:Option Addr) (m:Nat) (vs:Nat→Value):Prop:=
 ∀ i,i<m→∃ b off,A=some ⟨b,off,none⟩∧b<B∧∀ j,j<sz→w.cell? ⟨b,off+i * sz+j,none⟩=partAt (vs i) j
theorem ElemsAt.keep {sz:Nat} {w w':World} {B m:Nat} {A:Option Addr} {vs:Nat→Value} (h:ElemsAt sz w B A m vs) (hk:∀ p:Addr,p.block<B→w'.cell? p=w.cell? p):ElemsAt sz w' B A m vs:=fun i hi=>by
 obtain ⟨b,off,h1,h2,h3⟩:=h i hi
 exact ⟨b,off,h1,h2,fun j hj=>(hk _ h2).trans (h3 j hj)⟩
theorem ElemsAt.more {sz:Nat} {w:World} {B B' m:Nat} {A:Option Addr} {vs:Nat→Value} (h:ElemsAt sz w B A m vs) (hB:B≤B'):ElemsAt sz w B' A m vs:=fun i hi=>by
 obtain ⟨b,off,h1,h2,h3⟩:=h i hi
 exact ⟨b,off,h1,by omega,h3⟩
inductive TyAt (w:World) (B:Nat):Value→Ty→Prop where
 | mk {k:Int} {ls:List ByteArray} {ts:List Ty} {L A:Option Addr} {lc ac:Nat} (vs:Nat→Value) (hn:ls.length≤maxLen) (hz:∀ i,(h:i<ls.length)→ls[i].size≤maxLen) (hm:ts.length≤maxLen) (hls:StrsAt w B L ls) (hes:ElemsAt 3 w B A ts.length vs)
   (hks:∀ i,(hi:i<ts.length)→TyAt w B (vs i) ts[i]):TyAt w B (.agg #[.int .i64 k,.slice L ls.length lc,.slice A ts.length ac]) (.mk k ls ts)
theorem TyAt.keep {w w':World} {B:Nat} {v:Value} {t:Ty} (h:TyAt w B v t) (hk:∀ p:Addr,p.block<B→w'.cell? p=w.cell? p):TyAt w' B v t:=by
 induction h with
 | mk vs hn hz hm hls hes _ ih=>exact .mk vs hn hz hm (hls.keep hk) (hes.keep hk) ih
theorem TyAt.more {w:World} {B B':Nat} {v:Value} {t:Ty} (h:TyAt w B v t) (hB:B≤B'):TyAt w B' v t:=by
 induction h with
 | mk vs hn hz hm hls hes _ ih=>exact .mk vs hn hz hm (hls.more hB) (hes.more hB) ih
theorem TyAt.lift {w w':World} {B:Nat} {v:Value} {t:Ty} (h:TyAt w B v t) (hb:Below B w w'):TyAt w' B v t:=h.keep fun _ hp=>hb.cell hp
theorem TyAt.up {w w':World} {v:Value} {t:Ty} (h:TyAt w w.heap.size v t) (hb:Below w.heap.size w w'):TyAt w' w'.heap.size v t:=(h.lift hb).more hb.size
def TysAt (w:World) (B:Nat) (A:Option Addr) (ts:List Ty):Prop:=ts.length≤maxLen∧∃ vs:Nat→Value,ElemsAt 3 w B A ts.length vs∧∀ i,(hi:i<ts.length)→TyAt w B (vs i) ts[i]
theorem TysAt.keep {w w':World} {B:Nat} {A:Option Addr} {ts:List Ty} (h:TysAt w B A ts) (hk:∀ p:Addr,p.block<B→w'.cell? p=w.cell? p):TysAt w' B A ts:=by
 obtain ⟨h0,vs,h1,h2⟩:=h
 exact ⟨h0,vs,h1.keep hk,fun i hi=>(h2 i hi).keep hk⟩
theorem TysAt.more {w:World} {B B':Nat} {A:Option Addr} {ts:List Ty} (h:TysAt w B A ts) (hB:B≤B'):TysAt w B' A ts:=by
 obtain ⟨h0,vs,h1,h2⟩:=h
 exact ⟨h0,vs,h1.more hB,fun i hi=>(h2 i hi).more hB⟩
theorem TysAt.below {w w':World} {B:Nat} {A:Option Addr} {ts:List Ty} (h:TysAt w B A ts) (hb:Below B w w'):TysAt w' B A ts:=h.keep fun _ hp=>hb.cell hp
theorem TysAt.up {w w':World} {A:Option Addr} {ts:List Ty} (h:TysAt w w.heap.size A ts) (hb:Below w.heap.size w w'):TysAt w' w'.heap.size A ts:=(h.below hb).more hb.size
theorem TyAt.open {w:World} {B:Nat} {v:Value} {t:Ty} (h:TyAt w B v t):∃ L lc A ac,v=.agg #[.int .i64 t.kind,.slice L t.labels.length lc,.slice A t.args.length ac]∧t.labels.length≤maxLen∧(∀ i,(h:i<t.labels.length)→t.labels[i].size≤maxLen)∧StrsAt w B L t.labels∧TysAt w B A t.args:=by
 cases h with
 | mk vs hn hz hm hls hes hks=>exact ⟨_,_,_,_,rfl,hn,hz,hls,hm,vs,hes,hks⟩
theorem TyAt.of {w:World} {B lc ac:Nat} {L A:Option Addr} {t:Ty} (hn:t.labels.length≤maxLen) (hz:∀ i,(h:i<t.labels.length)→t.labels[i].size≤maxLen) (hl:StrsAt w B L t.labels) (ha:TysAt w B A t.args):TyAt w B (.agg #[.int .i64 t.kind,.slice L t.labels.length lc,.slice A t.args.length ac]) t:=by
 obtain ⟨h0,vs,h1,h2⟩:=ha
 cases t
 exact .mk vs hn hz h0 hl h1 h2
theorem TysAt.elem {w:World} {B:Nat} {A:Option Addr} {ts:List Ty} (h:TysAt w B A ts) (i:Nat) (hi:i<ts.length):
  ∃ b off L lc A' ac,A=some ⟨b,off,none⟩∧b<B∧w.cell? ⟨b,off+i * 3,none⟩=some (.int .i64 ts[i].kind)∧w.cell? ⟨b,off+i * 3+1,none⟩=some (.slice L ts[i].labels.length lc)∧
   w.cell? ⟨b,off+i * 3+2,none⟩=some (.slice A' ts[i].args.length ac)∧ts[i].labels.length≤maxLen∧(∀ j,(h:j<ts[i].labels.length)→ts[i].labels[j].size≤maxLen)∧StrsAt w B L ts[i].labels∧TysAt w B A' ts[i].args∧TyAt w B (.agg #[.int .i64 ts[i].kind,.slice L ts[i].labels.length lc,.slice A' ts[i].args.length ac]) ts[i]:=by
 obtain ⟨h0,vs,h1,h2⟩:=h
 obtain ⟨b,off,e,hb,hc⟩:=h1 i hi
 have ht:=h2 i hi
 obtain ⟨L,lc,A',ac,hv,hn,hz,hl,ha⟩:=ht.open
 rw [hv] at hc ht
 exact ⟨b,off,L,lc,A',ac,e,hb,hc 0 (by omega),hc 1 (by omega),hc 2 (by omega),hn,hz,hl,ha,ht⟩
mutual
def szTy:Ty→Nat | .mk _ ls ts=>ls.length+sumSizes ls+szTys ts
def szTys:List Ty→Nat | []=>0 | t::r=>1+szTy t+szTys r
end
theorem szTys_append:∀ (a b:List Ty),szTys (a++b)=szTys a+szTys b
 | [],b=>by simp [szTys]
 | t::a,b=>by
  rw [List.cons_append,szTys,szTys,szTys_append a b]
  omega
theorem szTys_take (ts:List Ty) (k:Nat) (h:k<ts.length):szTys (ts.take (k+1))=szTys (ts.take k)+1+szTy ts[k]:=by
 rw [List.take_succ_eq_append_getElem h,szTys_append,szTys,szTys]
 omega
theorem szTys_len:∀ (ts:List Ty),ts.length≤szTys ts
 | []=>Nat.le_refl _
 | t::r=>by
  have:=szTys_len r
  rw [szTys,List.length_cons]
  omega
theorem szTys_le (ts:List Ty) (k:Nat):szTys (ts.take k)+(ts.length - k)≤szTys ts:=by
 have h:=szTys_append (ts.take k) (ts.drop k)
 have h2:=szTys_len (ts.drop k)
 rw [List.take_append_drop] at h
 rw [List.length_drop] at h2
 omega
theorem szTy_part (ts:List Ty) (k:Nat) (h:k<ts.length):szTy ts[k]+1≤szTys ts:=by
 have h1:=szTys_take ts k h
 have h2:=szTys_le ts (k+1)
 omega
theorem szTy_eq (t:Ty):szTy t=t.labels.length+sumSizes t.labels+szTys t.args:=by
 cases t
 rw [szTy]
 rfl
end Go.Proofs.YtfnblkcmcfofoaaGreatDoor
namespace Go.Proofs.YtfnblkcmcfofoaaGreatDoor
open Go.RowKit
def ElemRow (sz:Nat) (t:TypeId) (w:World) (g m:Nat) (vs:Nat→Value):Prop:=∃ cs:Array Value,Whole1 w g t cs∧∀ i,i<m→∀ j,j<sz→(partAt (vs i) j).isSome=true∧cs[i * sz+j]?=partAt (vs i) j
theorem ElemRow.lt {sz:Nat} {t:TypeId} {w:World} {g m:Nat} {vs:Nat→Value} (h:ElemRow sz t w g m vs):g<w.heap.size:=by
 obtain ⟨cs,h1,_⟩:=h
 exact h1.lt
theorem ElemRow.cell {sz:Nat} {t:TypeId} {w:World} {g m:Nat} {vs:Nat→Value} (h:ElemRow sz t w g m vs) (i j:Nat) (hi:i<m) (hj:j<sz):w.cell? ⟨g,i * sz+j,none⟩=partAt (vs i) j:=by
 obtain ⟨cs,h1,h2⟩:=h
 rw [h1.cell,(h2 i hi j hj).2]
theorem ElemRow.free {sz:Nat} {t:TypeId} {w:World} {g m:Nat} {vs:Nat→Value} (h:ElemRow sz t w g m vs) (i:Nat):w.frozen? ⟨g,i,none⟩=false:=by
 obtain ⟨cs,h1,_⟩:=h
 exact h1.free i
theorem ElemRow.keep {sz:Nat} {t:TypeId} {w w':World} {g m:Nat} {vs:Nat→Value} (h:ElemRow sz t w g m vs) (hk:w'.heap[g]?=w.heap[g]?):ElemRow sz t w' g m vs:=by
 obtain ⟨cs,h1,h2⟩:=h
 exact ⟨cs,hk.trans h1,h2⟩
theorem ElemRow.at {sz:Nat} {t:TypeId} {w:World} {g m:Nat} {vs:Nat→Value} (h:ElemRow sz t w g m vs) (B:Nat) (hB:g<B):ElemsAt sz w B (some ⟨g,0,none⟩) m vs:=fun i hi=>⟨g,0,rfl,hB,fun j hj=>by rw [Nat.zero_add];exact h.cell i j hi hj⟩
theorem RowStrs.same {w w':World} {g:Nat} {ss:List ByteArray} (h:RowStrs w g ss) (hk:w'.heap[g]?=w.heap[g]?):RowStrs w' g ss:=by
 obtain ⟨cs,h1,h2⟩:=h
 exact ⟨cs,hk.trans h1,h2⟩
inductive TyIn (w:World):(Nat→Prop)→Value→Ty→Prop where
 | mk {S:Nat→Prop} {k:Int} {ls:List ByteArray} {ts:List Ty} {L A:Option Addr} {lc ac:Nat} (gl ga:Nat) (vs:Nat→Value) (Ss:Nat→Nat→Prop)
   (hn:ls.length≤maxLen) (hz:∀ i,(h:i<ls.length)→ls[i].size≤maxLen) (hm:ts.length≤maxLen)
   (hls:ls=[]∨L=some ⟨gl,0,none⟩∧S gl∧RowStrs w gl ls) (hes:ts=[]∨A=some ⟨ga,0,none⟩∧S ga∧ElemRow 3 27 w ga ts.length vs) (hne:gl≠ga)
   (hsub:∀ i,i<ts.length→∀ b,Ss i b→S b∧b≠gl∧b≠ga) (hdis:∀ i j,i<ts.length→j<ts.length→i≠j→∀ b,Ss i b→¬ Ss j b)
   (hks:∀ i,(hi:i<ts.length)→TyIn w (Ss i) (vs i) ts[i]):TyIn w S (.agg #[.int .i64 k,.slice L ls.length lc,.slice A ts.length ac]) (.mk k ls ts)
theorem TyIn.keep {w w':World} {S:Nat→Prop} {v:Value} {t:Ty} (h:TyIn w S v t) (hk:∀ b,S b→b<w.heap.size→w'.heap[b]?=w.heap[b]?):TyIn w' S v t:=by
 induction h with
 | mk gl ga vs Ss hn hz hm hls hes hne hsub hdis _ ih=>
  refine .mk gl ga vs Ss hn hz hm (hls.imp id fun ⟨h1,h2,h3⟩=>⟨h1,h2,h3.same (hk _ h2 h3.lt)⟩) (hes.imp id fun ⟨h1,h2,h3⟩=>⟨h1,h2,h3.keep (hk _ h2 h3.lt)⟩) hne hsub hdis fun i hi=>ih i hi fun b hb=>hk b (hsub i hi b hb).1
theorem TyIn.wide {w:World} {S S':Nat→Prop} {v:Value} {t:Ty} (h:TyIn w S v t) (hS:∀ b,S b→S' b):TyIn w S' v t:=by
 cases h with
 | mk gl ga vs Ss hn hz hm hls hes hne hsub hdis hks=>
  exact .mk gl ga vs Ss hn hz hm (hls.imp id fun ⟨h1,h2,h3⟩=>⟨h1,hS _ h2,h3⟩) (hes.imp id fun ⟨h1,h2,h3⟩=>⟨h1,hS _ h2,h3⟩) hne (fun i hi b hb=>⟨hS _ (hsub i hi b hb).1,(hsub i hi b hb).2⟩) hdis hks
theorem TyIn.at {w:World} {S:Nat→Prop} {v:Value} {t:Ty} (h:TyIn w S v t) (B:Nat) (hB:∀ b,S b→b<w.heap.size→b<B):TyAt w B v t:=by
 induction h with
 | @mk S k ls ts L A lc ac gl ga vs Ss hn hz hm hls hes hne hsub hdis _ ih=>
  refine .mk vs hn hz hm ?_ ?_ fun i hi=>ih i hi fun b hb=>hB b (hsub i hi b hb).1
  ·rcases hls with rfl | ⟨rfl,h2,h3⟩
   ·exact StrsAt.empty _ _ _
   ·exact h3.at _ (hB _ h2 h3.lt)
  ·rcases hes with rfl | ⟨rfl,h2,h3⟩
   ·exact fun i hi=>absurd hi (by simp)
   ·exact h3.at _ (hB _ h2 h3.lt)
theorem TyIn.here {w:World} {S:Nat→Prop} {v:Value} {t:Ty} (h:TyIn w S v t):TyAt w w.heap.size v t:=h.at _ fun _ _ h=>h
def TysIn (w:World) (S:Nat→Prop) (A:Option Addr) (ts:List Ty):Prop:=
 ts.length≤maxLen∧∃ (ga:Nat) (vs:Nat→Value) (Ss:Nat→Nat→Prop),(ts=[]∨A=some ⟨ga,0,none⟩∧S ga∧ElemRow 3 27 w ga ts.length vs)∧
  (∀ i,i<ts.length→∀ b,Ss i b→S b∧b≠ga)∧(∀ i j,i<ts.length→j<ts.length→i≠j→∀ b,Ss i b→¬ Ss j b)∧∀ i,(hi:i<ts.length)→TyIn w (Ss i) (vs i) ts[i]
theorem TysIn.at {w:World} {S:Nat→Prop} {A:Option Addr} {ts:List Ty} (h:TysIn w S A ts) (B:Nat) (hB:∀ b,S b→b<w.heap.size→b<B):TysAt w B A ts:=by
 obtain ⟨h0,ga,vs,Ss,h1,h2,h3,h4⟩:=h
 refine ⟨h0,vs,?_,fun i hi=>(h4 i hi).at B fun b hb=>hB b (h2 i hi b hb).1⟩
 rcases h1 with rfl | ⟨rfl,h5,h6⟩
 ·exact fun i hi=>absurd hi (by simp)
 ·exact h6.at _ (hB _ h5 h6.lt)
theorem TysIn.here {w:World} {S:Nat→Prop} {A:Option Addr} {ts:List Ty} (h:TysIn w S A ts):TysAt w w.heap.size A ts:=h.at _ fun _ _ h=>h
theorem TysIn.keep {w w':World} {S:Nat→Prop} {A:Option Addr} {ts:List Ty} (h:TysIn w S A ts) (hk:∀ b,S b→b<w.heap.size→w'.heap[b]?=w.heap[b]?):TysIn w' S A ts:=by
 obtain ⟨h0,ga,vs,Ss,h1,h2,h3,h4⟩:=h
 exact ⟨h0,ga,vs,Ss,h1.imp id fun ⟨a,b,c⟩=>⟨a,b,c.keep (hk _ b c.lt)⟩,h2,h3,fun i hi=>(h4 i hi).keep fun b hb=>hk b (h2 i hi b hb).1⟩
theorem TyIn.of {w:World} {S Sa:Nat→Prop} {L A:Option Addr} {lc ac gl:Nat} {t:Ty} (hn:t.labels.length≤maxLen) (hz:∀ i,(h:i<t.labels.length)→t.labels[i].size≤maxLen)
  (hl:t.labels=[]∨L=some ⟨gl,0,none⟩∧S gl∧RowStrs w gl t.labels) (ha:TysIn w Sa A t.args) (hs:∀ b,Sa b→S b∧b≠gl):
  TyIn w S (.agg #[.int .i64 t.kind,.slice L t.labels.length lc,.slice A t.args.length ac]) t:=by
 obtain ⟨h0,ga,vs,Ss,h1,h2,h3,h4⟩:=ha
 cases t with
 | mk k ls ts=>
  simp only [Ty.labels,Ty.args,Ty.kind] at *
  rcases h1 with rfl | ⟨rfl,h5,h6⟩
  ·exact .mk gl (gl+1) vs Ss hn hz h0 hl (.inl rfl) (by omega) (fun i hi=>absurd hi (by simp)) (fun i _ hi=>absurd hi (by simp)) h4
  ·exact .mk gl ga vs Ss hn hz h0 hl (.inr ⟨rfl,(hs _ h5).1,h6⟩) (fun e=>(hs _ h5).2 e.symm) (fun i hi b hb=>⟨(hs _ (h2 i hi b hb).1).1,(hs _ (h2 i hi b hb).1).2,(h2 i hi b hb).2⟩) h3 h4
theorem TyIn.open {w:World} {S:Nat→Prop} {v:Value} {t:Ty} (h:TyIn w S v t):
  ∃ L lc A ac gl,v=.agg #[.int .i64 t.kind,.slice L t.labels.length lc,.slice A t.args.length ac]∧t.labels.length≤maxLen∧(∀ i,(h:i<t.labels.length)→t.labels[i].size≤maxLen)∧
   (t.labels=[]∨L=some ⟨gl,0,none⟩∧S gl∧RowStrs w gl t.labels)∧TysIn w (fun b=>S b∧b≠gl) A t.args:=by
 cases h with
 | mk gl ga vs Ss hn hz hm hls hes hne hsub hdis hks=>
  exact ⟨_,_,_,_,gl,rfl,hn,hz,hls,hm,ga,vs,Ss,hes.imp id fun ⟨a,b,c⟩=>⟨a,⟨b,fun e=>hne e.symm⟩,c⟩,fun i hi b hb=>⟨⟨(hsub i hi b hb).1,(hsub i hi b hb).2.1⟩,(hsub i hi b hb).2.2⟩,hdis,hks⟩
def Span (lo hi b:Nat):Prop:=lo≤b∧b<hi
end Go.Proofs.YtfnblkcmcfofoaaGreatDoor
end
namespace Go.Proofs.YtfnblkcmcfofoaaGreatDoor
section
set_option maxRecDepth 100000
open Go.ChangeShapes Go.WideShapes Go.ChangeAt Go.RowKit
theorem cellsString:Tryz.prog.cellsOf 9=1:=by kernel_rfl
theorem cellsInt:Tryz.prog.cellsOf 3=1:=by kernel_rfl
theorem cellsStrs:Tryz.prog.cellsOf 24=1:=by kernel_rfl
theorem open_labels {H:Type} {enc:TypeId×Value→H} {W:World} {fuel:Nat} {cs:List Value} {x:DataW H×List MemPlace} (h:DataW.trod enc Tryz.prog W 0 (fun _=>true) true fuel 24 cs=some x) (hlt:∀ q ∈ x.2,q.block<W.heap.size):
  ∃ A ss c,cs=[.slice A (List.length ss) c]∧StrsAt W W.heap.size A ss∧ss.length≤maxLen∧∀ i,(h:i<ss.length)→ss[i].size≤maxLen:=by
 rcases open_strings Tryz.underlying24 Tryz.underlying9 cellsString h with ⟨hcs,hx⟩ | ⟨a,len,cap,ss,hcs,_,hl,hm,hz,hx,hcell,hws⟩
 ·subst hcs
  exact ⟨none,[],0,rfl,StrsAt.empty _ _ _,Nat.zero_le _,fun i h=>absurd h (by simp)⟩
 ·subst hcs
  simp only [if_true] at hz
  subst hx
  have hlen:(ss.take len).length=len:=by rw [List.length_take];omega
  refine ⟨some a,ss.take len,cap,by rw [hlen],fun i hi=>?_,by rw [hlen];omega,fun i hi=>?_⟩
  ·rw [hlen] at hi
   obtain ⟨b,off,spot⟩:=a
   have hspot:spot=none:=by simpa [Addr.add] using World.cell?_spot (hcell 0 (by omega))
   subst hspot
   refine ⟨b,off,rfl,hlt (.cell b off) (MemPlace.mem_row.2 ⟨0,by omega,by simp⟩),?_⟩
   have:=hcell i (by omega)
   rw [add_plain] at this
   rw [this,List.getElem_take]
   simp [show i<ss.length by omega]
  ·exact hws _ (List.mem_of_mem_take (List.getElem_mem hi))
theorem cellsTy:Tryz.prog.cellsOf 57=3:=by kernel_rfl
theorem cellsTys:Tryz.prog.cellsOf 55=1:=by kernel_rfl
theorem open_ty {H:Type} {enc:TypeId×Value→H} {W:World} (fuel:Nat):∀ {cs:List Value} {x:DataW H×List MemPlace},DataW.trod enc Tryz.prog W 0 (fun _=>true) true fuel 57 cs=some x→(∀ q ∈ x.2,q.block<W.heap.size)→
  ∃ c0 c1 c2 t,cs=[c0,c1,c2]∧TyAt W W.heap.size (.agg #[c0,c1,c2]) t:=by
 induction fuel using Nat.strongRecOn with
 | ind fuel ih=>
  intro cs x h hlt
  obtain ⟨xs,n,rfl,rfl,hlen,hxl,hf⟩:=DataW.trod_struct Tryz.underlying57 h
  rw [cellsTy] at hlen
  have h0:DataW.trod enc Tryz.prog W 0 (fun _=>true) true n 3 ((cs.drop 0).take (Tryz.prog.cellsOf 3))=xs[0]?:=hf 0 _ rfl
  have h1:DataW.trod enc Tryz.prog W 0 (fun _=>true) true n 24 ((cs.drop 1).take (Tryz.prog.cellsOf 24))=xs[1]?:=hf 1 _ rfl
  have h2:DataW.trod enc Tryz.prog W 0 (fun _=>true) true n 55 ((cs.drop 2).take (Tryz.prog.cellsOf 55))=xs[2]?:=hf 2 _ rfl
  rw [cellsInt] at h0
  rw [cellsStrs] at h1
  rw [cellsTys] at h2
  match cs,hlen with
  | [c0,c1,c2],_=>
  match xs,hxl with
  | [x0,x1,x2],_=>
  simp at h0 h1 h2
  obtain ⟨k,hk,_,_⟩:=DataW.trod_int Tryz.underlying3 h0
  obtain ⟨L,ls,lc,hL,hls,hn,hz⟩:=open_labels h1 (fun q hq=>hlt q (by simp [hq]))
  simp at hk hL
  subst hk hL
  rcases DataW.trod_slice Tryz.underlying55 h2 with ⟨hcs,_⟩ | ⟨a,len,cap,elems,rest,m,rfl,hcs,hx,_,hl,hm,hel,hes,_,_⟩
  ·simp at hcs
   subst hcs
   exact ⟨_,_,_,.mk k ls [],rfl,TyAt.of (t:=.mk k ls []) (A:=none) (ac:=0) hn hz hls ⟨Nat.zero_le _,fun _=>.bool false,fun i hi=>absurd hi (by simp [Ty.args]),fun i hi=>absurd hi (by simp [Ty.args])⟩⟩
  ·simp at hcs
   subst hcs
   have hxe:x2.2=MemPlace.row a ((elems.length+rest.length) * 3)++(elems++rest).flatMap (·.2):=by rw [hx];simp only [cellsTy]
   have each:∀ i,(hi:i<len)→∃ p:Value×Ty,TyAt W W.heap.size p.1 p.2∧∀ j,j<3→(partAt p.1 j).isSome=true∧W.cell? ((a.add (i * 3)).add j)=partAt p.1 j:=fun i hi=>by
    have he:=hes i hi
    rw [cellsTy,List.getElem?_eq_getElem (by omega)] at he
    obtain ⟨cs',hc',ht'⟩:=Option.bind_eq_some_iff.1 he
    obtain ⟨_,hcl,hcat⟩:=World.cells?_some hc'
    obtain ⟨c0,c1,c2,t,rfl,ht⟩:=ih m (by omega) ht' (fun q hq=>hlt q (by
     simp only [List.flatMap_cons,List.flatMap_nil,List.append_nil,List.mem_append]
     right
     right
     rw [hxe,List.mem_append]
     right
     exact List.mem_flatMap.2 ⟨_,List.mem_append_left _ (List.getElem_mem (by omega)),hq⟩))
    refine ⟨(.agg #[c0,c1,c2],t),ht,fun j hj=>?_⟩
    have:j=0∨j=1∨j=2:=by omega
    rcases this with rfl | rfl | rfl
    ·exact ⟨rfl,hcat 0 (by omega)⟩
    ·exact ⟨rfl,hcat 1 (by omega)⟩
    ·exact ⟨rfl,hcat 2 (by omega)⟩
   have hf2:∃ f:Nat→Value×Ty,∀ i,i<len→TyAt W W.heap.size (f i).1 (f i).2∧∀ j,j<3→(partAt (f i).1 j).isSome=true∧W.cell? ((a.add (i * 3)).add j)=partAt (f i).1 j:=by
    refine ⟨fun i=>if hi:i<len then Classical.choose (each i hi) else (.bool false,.mk 0 [] []),fun i hi=>?_⟩
    dsimp only
    rw [dif_pos hi]
    exact Classical.choose_spec (each i hi)
   obtain ⟨f,hff⟩:=hf2
   have hll:((List.range len).map fun i=>(f i).2).length=len:=by simp
   refine ⟨_,_,_,.mk k ls ((List.range len).map fun i=>(f i).2),rfl,?_⟩
   have:=TyAt.of (w:=W) (B:=W.heap.size) (lc:=lc) (ac:=cap) (L:=L) (A:=some a) (t:=.mk k ls ((List.range len).map fun i=>(f i).2)) hn hz hls ⟨by simp only [Ty.args];rw [hll];omega,fun i=>(f i).1,fun i hi=>?_,fun i hi=>?_⟩
   ·simp only [Ty.kind,Ty.labels,Ty.args] at this
    rw [hll] at this
    exact this
   ·simp only [Ty.args] at hi
    rw [hll] at hi
    have h3:=(hff i hi).2
    have hs:=(hff 0 (by omega)).2 0 (by omega)
    rw [← hs.2] at hs
    obtain ⟨v0,hv0⟩:=Option.isSome_iff_exists.1 hs.1
    obtain ⟨b,off,spot⟩:=a
    have hspot:spot=none:=by simpa [Addr.add] using World.cell?_spot hv0
    subst hspot
    refine ⟨b,off,rfl,?_,fun j hj=>?_⟩
    ·refine hlt (.cell b off) ?_
     simp only [List.flatMap_cons,List.flatMap_nil,List.append_nil,List.mem_append]
     right
     right
     rw [hxe,List.mem_append]
     left
     exact MemPlace.mem_row.2 ⟨0,by omega,by simp⟩
    ·have:=(h3 j hj).2
     rw [add_plain,add_plain] at this
     exact this
   ·simp only [Ty.args] at hi ⊢
    rw [hll] at hi
    simp only [List.getElem_map,List.getElem_range]
    exact (hff i hi).1
theorem open_type_arg {H:Type} {enc:TypeId×Value→H} {W:World} {base:Nat} {v:Value} {d:DataW H} {p:List MemPlace} (hv:Value.okWide Tryz.prog W .any base 57 v) (h:DataW.Trod enc Tryz.prog W 0 (fun _=>true) true 57 v d p) (hlt:∀ x ∈ p,x.block<W.heap.size):
  ∃ t,TyAt W W.heap.size v t:=by
 obtain ⟨cs,rfl,_⟩:=okWide_struct Tryz.underlying57 hv
 obtain ⟨fuel,hf⟩:=h
 obtain ⟨c0,c1,c2,t,hcs,ht⟩:=open_ty fuel hf hlt
 have:cs=#[c0,c1,c2]:=Array.ext' (by simpa [Value.cells] using hcs)
 subst this
 exact ⟨t,ht⟩
end
end Go.Proofs.YtfnblkcmcfofoaaGreatDoor
