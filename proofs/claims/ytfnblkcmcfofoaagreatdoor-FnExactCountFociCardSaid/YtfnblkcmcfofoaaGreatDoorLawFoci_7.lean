/- Lemmas: MarkTy, HeldTy, MarkOt, HeldOt. -/
import Derived.Test.YtfnblkcmcfofoaaGreatDoorLawFoci_2
import Derived.Test.YtfnblkcmcfofoaaGreatDoorLawFoci_4
import Derived.Test.YtfnblkcmcfofoaaGreatDoorLawFoci_6
import Derived.Test.YtfnblkcmcfofoaaGreatDoorLawFoci_5

namespace Go.Proofs.YtfnblkcmcfofoaaGreatDoor
section
open Go.RowKit
mutual
def cntTy:Ty→Nat | .mk _ ls ts=>ls.length+cntTys ts
def cntTys:List Ty→Nat | []=>0 | t::r=>1+cntTy t+cntTys r
end
def setKind (k:Nat):Ty→Ty | .mk _ ls ts=>.mk k ls ts
mutual
def markTy:Ty→Nat→Ty | .mk d ls ts,k=>.mk d (marks k ls.length) (markTys ts (k+ls.length))
def markTys:List Ty→Nat→List Ty | [],_=>[] | t::r,k=>setKind k (markTy t (k+1))::markTys r (k+1+cntTy t)
end
theorem cntTy_eq (t:Ty):cntTy t=t.labels.length+cntTys t.args:=by cases t;rw [cntTy];rfl
theorem cntTys_append:∀ (a b:List Ty),cntTys (a++b)=cntTys a+cntTys b
 | [],b=>by simp [cntTys]
 | t::a,b=>by
  rw [List.cons_append,cntTys,cntTys,cntTys_append a b]
  omega
theorem cntTys_take (ts:List Ty) (k:Nat) (h:k<ts.length):cntTys (ts.take (k+1))=cntTys (ts.take k)+1+cntTy ts[k]:=by
 rw [List.take_succ_eq_append_getElem h,cntTys_append,cntTys,cntTys]
 omega
theorem cntTys_le (ts:List Ty) (k:Nat):cntTys (ts.take k)≤cntTys ts:=by
 have h:=cntTys_append (ts.take k) (ts.drop k)
 rw [List.take_append_drop] at h
 omega
theorem markTys_len:∀ (ts:List Ty) (k:Nat),(markTys ts k).length=ts.length
 | [],_=>by rw [markTys]
 | t::r,k=>by rw [markTys,List.length_cons,List.length_cons,markTys_len r]
theorem markTys_get:∀ (ts:List Ty) (k i:Nat) (h:i<ts.length),(markTys ts k)[i]?=some (setKind (k+cntTys (ts.take i)) (markTy ts[i] (k+cntTys (ts.take i)+1)))
 | [],_,i,h=>absurd h (by simp)
 | t::r,k,0,_=>by rw [markTys];simp [cntTys]
 | t::r,k,i+1,h=>by
  rw [markTys,List.getElem?_cons_succ,markTys_get r _ i (by simpa using h)]
  simp only [List.take_succ_cons,cntTys,List.getElem_cons_succ]
  rw [show k+1+cntTy t+cntTys (r.take i)=k+(1+cntTy t+cntTys (r.take i)) by omega]
mutual
theorem cnt_le_sz:∀ (t:Ty),cntTy t≤szTy t
 | .mk _ ls ts=>by
  rw [cntTy,szTy]
  have:=cnts_le_szs ts
  omega
theorem cnts_le_szs:∀ (ts:List Ty),cntTys ts≤szTys ts
 | []=>Nat.le_refl _
 | t::r=>by
  rw [cntTys,szTys]
  have:=cnt_le_sz t
  have:=cnts_le_szs r
  omega
end
structure OnlyIn (S:Nat→Prop) (w w':World):Prop where
 os:w'.os=w.os
 tape:w'.tape=w.tape
 output:w'.output=w.output
 size:w.heap.size≤w'.heap.size
 block:∀ b,b<w.heap.size→¬ S b→w'.heap[b]?=w.heap[b]?
theorem OnlyIn.refl (S:Nat→Prop) (w:World):OnlyIn S w w:=⟨rfl,rfl,rfl,Nat.le_refl _,fun _ _ _=>rfl⟩
theorem OnlyIn.trans {S:Nat→Prop} {a b c:World} (h:OnlyIn S a b) (k:OnlyIn S b c):OnlyIn S a c:=
 ⟨k.os.trans h.os,k.tape.trans h.tape,k.output.trans h.output,Nat.le_trans h.size k.size,fun i hi hn=>(k.block i (Nat.lt_of_lt_of_le hi h.size) hn).trans (h.block i hi hn)⟩
theorem OnlyIn.wide {S S':Nat→Prop} {a b:World} (h:OnlyIn S a b) (hS:∀ q,S q→S' q):OnlyIn S' a b:=⟨h.os,h.tape,h.output,h.size,fun i hi hn=>h.block i hi fun q=>hn (hS _ q)⟩
theorem OnlyIn.of_row {a b:World} {g:Nat} (h:a.grownBy b (some g)):OnlyIn (·=g) a b:=⟨h.os,h.tape,h.output,h.size,fun i hi hn=>h.block i hi fun e=>hn (Option.some.inj e)⟩
theorem OnlyIn.of_below {S:Nat→Prop} {a b:World} (h:Below a.heap.size a b):OnlyIn S a b:=⟨h.os,h.tape,h.output,h.size,fun i hi _=>h.block i hi⟩
theorem OnlyIn.set {S:Nat→Prop} {a b:World} (h:OnlyIn S a b) {g:Nat} (hg:S g) (i:Nat) (v:Value):OnlyIn S a (b.setCell ⟨g,i,none⟩ v):=
 ⟨h.os,h.tape,h.output,by simpa [World.setCell] using h.size,fun k hk hn=>(Below.heap_setCell b ⟨g,i,none⟩ v k (fun e=>hn (by rw [e];exact hg))).trans (h.block k hk hn)⟩
theorem OnlyIn.below {S:Nat→Prop} {B:Nat} {a b c:World} (h:Below B a b) (k:OnlyIn S b c) (hB:B≤b.heap.size) (hS:∀ q,S q→B≤q):Below B a c:=
 h.trans ⟨k.os,k.tape,k.output,k.size,fun i hi=>k.block i (by omega) fun q=>by have:=hS i q;omega⟩
def MarkedLs (w:World) (g k:Nat) (ls:List ByteArray) (e:Ending) (w':World):Prop:=
 e=.returned (.int .i64 ((k+ls.length:Nat):Int))∧(ls=[]∨RowStrs w' g (marks k ls.length))∧OnlyIn (fun b=>b=g∧ls≠[]) w w'
theorem markLabels (L:Option Addr) (c k g:Nat) (ls:List ByteArray) (w:World) (hg:ls=[]∨L=some ⟨g,0,none⟩∧RowStrs w g ls) (h0:0<k) (h1:k+ls.length≤2 ^ 62):
  Calls Tryz.prog 86 #[.slice L ls.length c,.int .i64 k] w (MarkedLs w g k ls):=by
 by_cases hls:ls=[]
 ·subst hls
  clear hg
  go_enter Tryz.func86,Tryz.ntmps86
  go_wp2
  go_loop [1,5] (fun m i=>m=.int .i64 (k:Int)∧i=.int .i64 0) (fun _ _=>0)
  case atStart=>exact ⟨rfl,rfl⟩
  case round=>
   obtain ⟨rfl,rfl⟩:=hrel
   go_wp2
   go_ret
   exact ⟨rfl,.inl rfl,OnlyIn.refl _ _⟩
 ·rcases hg with h | ⟨rfl,hr⟩
  ·exact absurd h hls
  ·refine (markStringS_row g c k ls w hr h0 h1).mono ?_
   rintro e w' ⟨rfl,h2,h3⟩
   exact ⟨rfl,.inr h2,(OnlyIn.of_row h3).wide fun b hb=>⟨hb,hls⟩⟩
theorem markIn {w:World} {S Sa:Nat→Prop} {L A:Option Addr} {lc ac gl:Nat} {t:Ty} (q:Nat) (hn:t.labels.length≤maxLen) (hq:q+t.labels.length≤2 ^ 62)
  (hl:t.labels=[]∨L=some ⟨gl,0,none⟩∧S gl∧RowStrs w gl (marks q t.labels.length)) (ha:TysIn w Sa A (markTys t.args (q+t.labels.length))) (hs:∀ b,Sa b→S b∧b≠gl):
  TyIn w S (.agg #[.int .i64 t.kind,.slice L t.labels.length lc,.slice A t.args.length ac]) (markTy t q):=by
 cases t with
 | mk k ls ts=>
  simp only [Ty.labels,Ty.args,Ty.kind] at *
  rw [markTy]
  have hll:=marks_len q ls.length
  have hal:=markTys_len ts (q+ls.length)
  have h:=TyIn.of (w:=w) (S:=S) (Sa:=Sa) (L:=L) (A:=A) (lc:=lc) (ac:=ac) (gl:=gl) (t:=.mk k (marks q ls.length) (markTys ts (q+ls.length))) (by simp only [Ty.labels];rw [hll];exact hn)
   (fun x hx=>by
    simp only [Ty.labels] at hx ⊢
    rw [hll] at hx
    have h62:=markB_size (q+x) (by omega)
    have e:(marks q ls.length)[x]'(by rw [hll];exact hx)=markB (q+x):=by simp [marks]
    rw [e]
    unfold maxLen
    omega)
   (by
    simp only [Ty.labels]
    rcases hl with h | h
    ·left
     rw [h]
     rfl
    ·exact .inr h)
   ha hs
  simp only [Ty.labels,Ty.args,Ty.kind] at h
  rw [hll,hal] at h
  exact h
def MarkedTys (w:World) (S:Nat→Prop) (A:Option Addr) (k:Nat) (ts:List Ty) (e:Ending) (w':World):Prop:=
 e=.returned (.int .i64 ((k+cntTys ts:Nat):Int))∧TysIn w' S A (markTys ts k)∧OnlyIn S w w'
def MarkMany (ts:List Ty):Prop:=∀ (S:Nat→Prop) (A:Option Addr) (c k:Nat) (w:World),TysIn w S A ts→0<k→k+cntTys ts≤2 ^ 62→Calls Tryz.prog 87 #[.slice A ts.length c,.int .i64 k] w (MarkedTys w S A k ts)
def Marking (w:World) (ga:Nat) (Ss:Nat→Nat→Prop) (ts:List Ty) (k j:Nat):Prop:=
 ∃ vs:Nat→Value,ElemRow 3 27 w ga ts.length vs∧(∀ i,(hi:i<ts.length)→i<j→TyIn w (Ss i) (vs i) (setKind (k+cntTys (ts.take i)) (markTy ts[i] (k+cntTys (ts.take i)+1))))∧(∀ i,(hi:i<ts.length)→j≤i→TyIn w (Ss i) (vs i) ts[i])
theorem Marking.done {w:World} {S:Nat→Prop} {ga k:Nat} {Ss:Nat→Nat→Prop} {ts:List Ty} (h:Marking w ga Ss ts k ts.length) (hm:ts.length≤maxLen) (hS:S ga) (h2:∀ i,i<ts.length→∀ b,Ss i b→S b∧b≠ga) (h3:∀ i j,i<ts.length→j<ts.length→i≠j→∀ b,Ss i b→¬ Ss j b):
  TysIn w S (some ⟨ga,0,none⟩) (markTys ts k):=by
 obtain ⟨vs,h4,h5,_⟩:=h
 have hl:=markTys_len ts k
 refine ⟨by rw [hl];exact hm,ga,vs,Ss,.inr ⟨rfl,hS,by rw [hl];exact h4⟩,by rw [hl];exact h2,by rw [hl];exact h3,fun i hi=>?_⟩
 have hi':i<ts.length:=by omega
 have hg:=markTys_get ts k i hi'
 rw [List.getElem?_eq_getElem hi] at hg
 rw [Option.some.inj hg]
 exact h5 i hi' hi'
theorem TyIn.setKind {w:World} {S:Nat→Prop} {L A:Option Addr} {lc ac:Nat} {k0:Int} {n m:Nat} {t:Ty} (h:TyIn w S (.agg #[.int .i64 k0,.slice L n lc,.slice A m ac]) t) (k:Nat):TyIn w S (.agg #[.int .i64 k,.slice L n lc,.slice A m ac]) (setKind k t):=by
 cases h with
 | mk gl ga vs Ss hn hz hm hls hes hne hsub hdis hks=>exact .mk gl ga vs Ss hn hz hm hls hes hne hsub hdis hks
theorem ElemRow.set {t:TypeId} {w:World} {g m:Nat} {vs:Nat→Value} {a b c x:Value} {i:Nat} (h:ElemRow 3 t w g m vs) (hi:i<m) (hv:vs i=.agg #[a,b,c]):ElemRow 3 t (w.setCell ⟨g,i * 3,none⟩ x) g m (fun j=>if j=i then .agg #[x,b,c] else vs j):=by
 obtain ⟨cs,h1,h2⟩:=h
 have hsz:i * 3<cs.size:=by
  have:=(h2 i hi 0 (by omega)).2
  rw [hv] at this
  exact (Array.getElem?_eq_some_iff.1 this).1
 refine ⟨_,h1.set (i * 3) x,fun q hq j hj=>?_⟩
 dsimp only
 by_cases e:q=i
 ·subst e
  rw [if_pos rfl,Array.getElem?_setIfInBounds]
  have h3:=h2 q hi j hj
  rw [hv] at h3
  have:j=0∨j=1∨j=2:=by omega
  rcases this with rfl | rfl | rfl
  ·simp [partAt,hsz]
  ·refine ⟨rfl,?_⟩
   rw [if_neg (by omega)]
   exact h3.2
  ·refine ⟨rfl,?_⟩
   rw [if_neg (by omega)]
   exact h3.2
 ·rw [if_neg e,Array.getElem?_setIfInBounds,if_neg (by omega)]
  exact h2 q hq j hj
set_option maxHeartbeats 1000000 in
theorem markTypeS_of (ts:List Ty) (hall:∀ i,(h:i<ts.length)→MarkMany ts[i].args):MarkMany ts:=by
 intro S A c k w hA h0 h1
 obtain ⟨hm,ga,vs0,Ss,hrow,hsub,hdis,hks⟩:=hA
 have HALL:=Lib.hid hall
 clear hall
 rcases hrow with rfl | ⟨rfl,hSa,hrow⟩
 ·go_enter Tryz.func87,Tryz.ntmps87
  go_wp2
  go_loop [1,5] (fun m i=>m=.int .i64 (k:Int)∧i=.int .i64 0) (fun _ _=>0)
  case atStart=>exact ⟨rfl,rfl⟩
  case round=>
   obtain ⟨rfl,rfl⟩:=hrel
   go_wp2
   go_ret
   refine ⟨rfl,?_,OnlyIn.refl _ _⟩
   rw [markTys]
   exact ⟨hm,ga,vs0,Ss,.inl rfl,fun i hi=>absurd hi (by simp),fun i _ hi=>absurd hi (by simp),fun i hi=>absurd hi (by simp)⟩
 ·have HSUB:=Lib.hid hsub
  have HDIS:=Lib.hid hdis
  have HM:=Lib.hid hm
  have hstart:Marking w ga Ss ts k 0:=⟨vs0,hrow,fun i _ hi=>absurd hi (by omega),fun i hi _=>hks i hi⟩
  unfold maxLen at hm
  clear hrow hks hsub hdis
  go_enter Tryz.func87,Tryz.ntmps87
  go_wp2
  go_loopw [1,5] (fun m i wr=>∃ j q:Nat,j≤ts.length∧i=.int .i64 j∧m=.int .i64 (q:Int)∧Hid (q=k+cntTys (ts.take j))∧Marking wr ga Ss ts k j∧OnlyIn S w wr) (fun _ i _=>ts.length - (intOf i).toNat)
  case atStart=>exact ⟨0,k,Nat.zero_le _,rfl,rfl,Lib.hid (by simp [cntTys]),hstart,OnlyIn.refl _ _⟩
  case round=>
   obtain ⟨j,q,hj,rfl,rfl,hq,hM,ho⟩:=hrel
   clear hstart
   by_cases hlt:j<ts.length
   ·have hc1:=Lib.hid (cntTys_take ts j hlt)
    have hc2:=cntTys_le ts (j+1)
    have hc4:=Lib.hid (cntTy_eq ts[j])
    have hq1:q+1+ts[j].labels.length+cntTys ts[j].args≤2 ^ 62:=by have:=hc1.out;have:=hc4.out;have:=hq.out;omega
    obtain ⟨vs,hrow,hdone,hrest⟩:=hM
    obtain ⟨L,lc,A',ac,gl,hv,hn,hz,hl,ha⟩:=(hrest j hlt (Nat.le_refl _)).open
    have hglS:ts[j].labels=[]∨Ss j gl∧gl<wr.heap.size:=hl.imp id fun ⟨_,h,h'⟩=>⟨h,h'.lt⟩
    have q0:wr.cell? ⟨ga,j * 3,none⟩=some (.int .i64 ts[j].kind):=by
     have:=hrow.cell j 0 hlt (by omega)
     rw [hv] at this
     simpa [partAt] using this
    have q0':wr.frozen? ⟨ga,j * 3,none⟩=false:=hrow.free _
    have q1:wr.cell? ⟨ga,j * 3+1,none⟩=some (.slice L ts[j].labels.length lc):=by
     have:=hrow.cell j 1 hlt (by omega)
     rw [hv] at this
     simpa [partAt] using this
    have hgal:=hrow.lt
    have hrow1:=Lib.hid (hrow.set (x:=.int .i64 (q:Int)) hlt hv)
    have hkeep:=Lib.hid (fun b (hb:b≠ga)=>Below.heap_setCell wr ⟨ga,j * 3,none⟩ (.int .i64 (q:Int)) b hb)
    have HD:=Lib.hid hdone
    have HV:=Lib.hid hv
    have HE:=Lib.hid hrest
    have HA':=Lib.hid ha
    have HL:=Lib.hid hl
    have HZ:=Lib.hid hz
    have ho1:=Lib.hid (ho.set hSa (j * 3) (.int .i64 (q:Int)))
    have hs1:wr.heap.size≤(wr.setCell ⟨ga,j * 3,none⟩ (.int .i64 (q:Int))).heap.size:=by simp [World.setCell]
    clear hrow hdone hrest hv ha hl hz
    go_wp2_with fail
    generalize hW1:wr.setCell ⟨ga,j * 3,none⟩ (.int .i64 (q:Int))=w1 at *
    clear hW1
    have hl1:ts[j].labels=[]∨L=some ⟨gl,0,none⟩∧RowStrs w1 gl ts[j].labels:=HL.out.imp id fun ⟨h1,h2,h3⟩=>⟨h1,h3.same (hkeep.out gl (HSUB.out j hlt _ h2).2)⟩
    refine (markLabels L lc (q+1) gl ts[j].labels w1 hl1 (by omega) (by omega)).mono ?_
    rintro e w2 ⟨rfl,hl2,ho2⟩
    have hs2:=ho2.size
    have hng:¬ (ga=gl∧ts[j].labels≠[]):=fun ⟨h1,h2⟩=>by
     rcases hglS with h | ⟨h,_⟩
     ·exact h2 h
     ·exact (HSUB.out j hlt _ h).2 h1.symm
    have hrow2:=hrow1.out.keep (ho2.block ga (by omega) hng)
    have q2:w2.cell? ⟨ga,j * 3+2,none⟩=some (.slice A' ts[j].args.length ac):=by
     have:=hrow2.cell j 2 hlt (by omega)
     simpa [partAt] using this
    have ha2:=Lib.hid ((HA'.out.keep (fun b hb hlt'=>hkeep.out b (HSUB.out j hlt _ hb.1).2)).keep (fun b hb hlt'=>ho2.block b hlt' fun h=>hb.2 h.1))
    have HT:=Lib.hid (HALL.out j hlt _ _ ac (q+1+ts[j].labels.length) w2 ha2.out (by omega) (by omega))
    have HR2:=Lib.hid hrow2
    clear hrow2
    go_wp2_with fail
    refine HT.out.mono ?_
    rintro e w3 ⟨rfl,ht3,ho3⟩
    have hs3:=ho3.size
    have HT3:=Lib.hid ht3
    have hM3:Hid (Marking w3 ga Ss ts k (j+1)):=by
     apply Lib.hid
     have hqe:=hq.out
     refine ⟨_,HR2.out.keep (ho3.block ga (by omega) fun h=>(HSUB.out j hlt _ h.1).2 rfl),fun i hi hij=>?_,fun i hi hij=>?_⟩
     ·by_cases e:i=j
      ·subst e
       rw [if_pos rfl,← hqe]
       refine TyIn.setKind (k0:=ts[i].kind) ?_ q
       exact markIn (Sa:=fun b=>Ss i b∧b≠gl) (q+1) hn (by omega) (by
        rcases hl2 with h | h
        ·exact .inl h
        ·rcases HL.out with h5 | ⟨h5,h6,_⟩
         ·exact .inl h5
         ·exact .inr ⟨h5,h6,h.same (ho3.block gl h.lt fun h=>h.2 rfl)⟩) HT3.out (fun b hb=>hb)
      ·rw [if_neg e]
       refine (HD.out i hi (by omega)).keep fun b hb hbl=>?_
       rw [ho3.block b (by omega) fun h=>HDIS.out i j hi hlt e b hb h.1,ho2.block b (by omega) fun h=>by
        rcases hglS with h5 | ⟨h5,_⟩
        ·exact h.2 h5
        ·exact HDIS.out i j hi hlt e b hb (by rw [h.1];exact h5)]
       exact hkeep.out b (HSUB.out i hi b hb).2
     ·have e:i≠j:=by omega
      rw [if_neg e]
      refine (HE.out i hi (by omega)).keep fun b hb hbl=>?_
      rw [ho3.block b (by omega) fun h=>HDIS.out i j hi hlt e b hb h.1,ho2.block b (by omega) fun h=>by
       rcases hglS with h5 | ⟨h5,_⟩
       ·exact h.2 h5
       ·exact HDIS.out i j hi hlt e b hb (by rw [h.1];exact h5)]
      exact hkeep.out b (HSUB.out i hi b hb).2
    have hO3:=Lib.hid ((ho1.out.trans (ho2.wide fun b hb=>by
     rcases hglS with h5 | ⟨h5,_⟩
     ·exact absurd h5 hb.2
     ·rw [hb.1];exact (HSUB.out j hlt _ h5).1)).trans (ho3.wide fun b hb=>(HSUB.out j hlt _ hb.1).1))
    clear ht3 ho2 ho3 hl1 hl2 q2
    go_wp2
    go_roundw
    case rel=>exact ⟨j+1,q+1+ts[j].labels.length+cntTys ts[j].args,by omega,by go_num,rfl,Lib.hid (by have:=hc1.out;have:=hc4.out;have:=hq.out;omega),hM3.out,hO3.out⟩
    case measure=>simp [intOf];omega
   ·have hje:j=ts.length:=by omega
    subst hje
    rw [List.take_length] at hq
    have hqe:=hq.out
    have HQ:=Lib.hid hqe
    clear hqe
    have HMk:=Lib.hid hM
    clear hM
    go_wp2
    go_ret
    exact ⟨by rw [HQ.out];rfl,HMk.out.done HM.out hSa HSUB.out HDIS.out,ho⟩
end
section
open Go.RowKit
theorem markMany_any (t:Ty):MarkMany t.args:=by
 induction t using Ty.ind with
 | h k ls ts ih=>exact markTypeS_of ts ih
def MarkedTy (w:World) (S:Nat→Prop) (v:Value) (k:Nat) (t:Ty) (e:Ending) (w':World):Prop:=
 e=.returned (.int .i64 ((k+cntTy t:Nat):Int))∧TyIn w' S v (markTy t k)∧OnlyIn S w w'
set_option maxHeartbeats 1000000 in
theorem markType_any (t:Ty) (S:Nat→Prop) (v:Value) (k:Nat) (w:World) (hv:TyIn w S v t) (h0:0<k) (h1:k+cntTy t≤2 ^ 62) (hS:∀ b,S b→b<w.heap.size):
  Calls Tryz.prog 42 #[v,.int .i64 k] w (MarkedTy w S v k t):=by
 have hc:=Lib.hid (cntTy_eq t)
 have hq1:k+t.labels.length+cntTys t.args≤2 ^ 62:=by have:=hc.out;omega
 obtain ⟨L,lc,A,ac,gl,rfl,hn,hz,hl,ha⟩:=hv.open
 obtain ⟨hb0,p0,hs0⟩:=boxes1 w 27 #[.int .i64 t.kind,.slice L t.labels.length lc,.slice A t.args.length ac]
 have hk0:∀ b,b<w.heap.size→(w.alloc (.cells #[.int .i64 t.kind,.slice L t.labels.length lc,.slice A t.args.length ac] 27)).heap[b]?=w.heap[b]?:=fun b hb=>hb0.block b hb
 have HS:=Lib.hid hS
 have HL:=Lib.hid hl
 have HA:=Lib.hid ha
 clear hz hl ha hv hS
 go_enter Tryz.func42,Tryz.ntmps42
 go_wp2_with fail
 generalize w.alloc (.cells #[.int .i64 t.kind,.slice L t.labels.length lc,.slice A t.args.length ac] 27)=w0 at *
 have HZ:=Lib.hid hs0
 have HK:=Lib.hid hk0
 clear hs0 hk0
 refine (markLabels L lc k gl t.labels w0 (HL.out.imp id fun ⟨h1,h2,h3⟩=>⟨h1,h3.same (HK.out gl h3.lt)⟩) h0 (by omega)).mono ?_
 rintro e w1 ⟨rfl,hl1,ho1⟩
 have hs1:=ho1.size
 have hgl:¬ (w.heap.size=gl∧t.labels≠[]):=fun ⟨h1,h2⟩=>by
  rcases HL.out with h | ⟨_,h,h'⟩
  ·exact h2 h
  ·have:=HS.out gl h
   omega
 have p1:Whole1 w1 w.heap.size 27 #[.int .i64 t.kind,.slice L t.labels.length lc,.slice A t.args.length ac]:=(ho1.block _ p0.lt hgl).trans p0
 have c1:w1.cell? ⟨w.heap.size,2,none⟩=some (.slice A t.args.length ac):=p1.cell 2
 have ha1:=Lib.hid ((HA.out.keep (fun b _ hb=>HK.out b hb)).keep (fun b hb hlt=>ho1.block b hlt fun h=>hb.2 h.1))
 clear p0 p1
 go_wp2_with fail
 refine (markMany_any t _ A ac (k+t.labels.length) w1 ha1.out (by omega) (by omega)).mono ?_
 rintro e w2 ⟨rfl,ht2,ho2⟩
 have HT:=Lib.hid ht2
 have hfin:Hid (TyIn w2 S (.agg #[.int .i64 t.kind,.slice L t.labels.length lc,.slice A t.args.length ac]) (markTy t k)):=Lib.hid (markIn k hn (by omega) (by
   rcases hl1 with h | h
   ·exact .inl h
   ·rcases HL.out with h5 | ⟨h5,h6,_⟩
    ·exact .inl h5
    ·exact .inr ⟨h5,h6,h.same (ho2.block gl h.lt fun h=>h.2 rfl)⟩) HT.out (fun b hb=>hb))
 have hO:OnlyIn S w w2:=(OnlyIn.of_below hb0).trans ((ho1.wide fun b hb=>by
  rcases HL.out with h5 | ⟨_,h6,_⟩
  ·exact absurd h5 hb.2
  ·rw [hb.1];exact h6).trans (ho2.wide fun b hb=>hb.1))
 clear ht2 hl1
 go_wp2
 go_ret
 exact ⟨by rw [hc.out,← Nat.add_assoc];rfl,hfin.out,hO⟩
set_option maxHeartbeats 400000 in
theorem heldLabels (A:Option Addr) (c k n:Nat) (w:World) (hA:StrsAt w w.heap.size A (marks k n)) (h0:0<k) (h1:k+n≤2 ^ 62):
  Calls Tryz.prog 90 #[.slice A n c,.int .i64 k] w (HeldTo w (k+n)):=by
 go_enter Tryz.func90,Tryz.ntmps90
 go_wp2
 go_loopw [1,5] (fun m i wr=>∃ j:Nat,j≤n∧i=.int .i64 j∧m=.int .i64 ((k+j:Nat):Int)∧Below w.heap.size w wr) (fun _ i _=>n - (intOf i).toNat)
 case atStart=>exact ⟨0,Nat.zero_le _,rfl,rfl,Below.refl _ _⟩
 case round=>
  obtain ⟨j,hj,rfl,rfl,hb⟩:=hrel
  by_cases hlt:j<n
  ·obtain ⟨g,off,rfl,hgl0,hc0⟩:=(hA.below hb) j (by rw [marks_len];exact hlt)
   have hc:wr.cell? ⟨g,off+j,none⟩=some (.string (markB (k+j))):=by
    rw [hc0]
    simp [marks]
   have hgl:g<wr.heap.size:=by have:=hb.size;omega
   clear hc0 hA
   go_wp2
   go_region_held3 (fun w'=>w'.cell? ⟨g,off+j,none⟩=some (.string (markB (k+j)))∧Below wr.heap.size wr w') ((first | exact ⟨hc,(Below.refl _ _).drew⟩ | exact ⟨hk1,hk2⟩))
    (first | (go_at_call 89;refine (markText_any (k+j) _ (by omega) (by omega)).mono ?_;rintro e w' ⟨rfl,hb1⟩;have hk2:=(Below.refl wr.heap.size wr).drew.trans hb1;have hk1:=(kC hk2 hc hgl)))
   go_wp2
   go_roundw
   case rel=>exact ⟨j+1,by omega,by go_num,by go_num,hb.trans (hk2.mono hb.size)⟩
   case measure=>simp [intOf];omega
  ·have hje:j=n:=by omega
   subst hje
   go_wp2
   go_ret
   exact ⟨rfl,hb⟩
end
section
open Go.RowKit
mutual
def cntOt:Ot→Nat | .mk _ _ _ ts=>cntOts ts
def cntOts:List Ot→Nat | []=>0 | t::r=>3+cntOt t+cntOts r
end
def setHeadO (k:Nat):Ot→Ot | .mk _ _ _ ts=>.mk k (k+2:Nat) (markB (k+1)) ts
mutual
def markOt:Ot→Nat→Ot | .mk d n nm ts,k=>.mk d n nm (markOts ts k)
def markOts:List Ot→Nat→List Ot | [],_=>[] | t::r,k=>setHeadO k (markOt t (k+3))::markOts r (k+3+cntOt t)
end
theorem cntOt_eq (t:Ot):cntOt t=cntOts t.args:=by cases t;rw [cntOt];rfl
theorem cntOts_append:∀ (a b:List Ot),cntOts (a++b)=cntOts a+cntOts b
 | [],b=>by simp [cntOts]
 | t::a,b=>by
  rw [List.cons_append,cntOts,cntOts,cntOts_append a b]
  omega
theorem cntOts_take (ts:List Ot) (k:Nat) (h:k<ts.length):cntOts (ts.take (k+1))=cntOts (ts.take k)+3+cntOt ts[k]:=by
 rw [List.take_succ_eq_append_getElem h,cntOts_append,cntOts,cntOts]
 omega
theorem cntOts_le (ts:List Ot) (k:Nat):cntOts (ts.take k)≤cntOts ts:=by
 have h:=cntOts_append (ts.take k) (ts.drop k)
 rw [List.take_append_drop] at h
 omega
theorem markOts_len:∀ (ts:List Ot) (k:Nat),(markOts ts k).length=ts.length
 | [],_=>by rw [markOts]
 | t::r,k=>by rw [markOts,List.length_cons,List.length_cons,markOts_len r]
theorem markOts_get:∀ (ts:List Ot) (k i:Nat) (h:i<ts.length),(markOts ts k)[i]?=some (setHeadO (k+cntOts (ts.take i)) (markOt ts[i] (k+cntOts (ts.take i)+3)))
 | [],_,i,h=>absurd h (by simp)
 | t::r,k,0,_=>by rw [markOts];simp [cntOts]
 | t::r,k,i+1,h=>by
  rw [markOts,List.getElem?_cons_succ,markOts_get r _ i (by simpa using h)]
  simp only [List.take_succ_cons,cntOts,List.getElem_cons_succ]
  rw [show k+3+cntOt t+cntOts (r.take i)=k+(3+cntOt t+cntOts (r.take i)) by omega]
mutual
theorem cnt_le_szO:∀ (t:Ot),cntOt t≤3 * szOt t
 | .mk _ _ _ ts=>by
  rw [cntOt,szOt]
  have:=cnts_le_szOs ts
  omega
theorem cnts_le_szOs:∀ (ts:List Ot),cntOts ts≤3 * szOts ts
 | []=>by simp [cntOts]
 | t::r=>by
  rw [cntOts,szOts]
  have:=cnt_le_szO t
  have:=cnts_le_szOs r
  omega
end
theorem markOIn {w:World} {S:Nat→Prop} {A:Option Addr} {ac:Nat} {t:Ot} (q:Nat) (hnm:t.name.size≤maxLen) (ha:OtsIn w S A (markOts t.args q)):
  OtIn w S (.agg #[.int .i64 t.kind,.string t.name,.int .i64 t.num,.slice A t.args.length ac]) (markOt t q):=by
 cases t with
 | mk k n nm ts=>
  simp only [Ot.args,Ot.kind,Ot.num,Ot.name] at *
  rw [markOt]
  have hal:=markOts_len ts q
  have h:=OtIn.of (w:=w) (S:=S) (Sa:=S) (A:=A) (ac:=ac) (t:=.mk k n nm (markOts ts q)) hnm ha (fun b hb=>hb)
  simp only [Ot.args,Ot.kind,Ot.num,Ot.name] at h
  rw [hal] at h
  exact h
def MarkedOts (w:World) (S:Nat→Prop) (A:Option Addr) (k:Nat) (ts:List Ot) (e:Ending) (w':World):Prop:=
 e=.returned (.int .i64 ((k+cntOts ts:Nat):Int))∧OtsIn w' S A (markOts ts k)∧OnlyIn S w w'
def MarkOMany (ts:List Ot):Prop:=∀ (S:Nat→Prop) (A:Option Addr) (c k:Nat) (w:World),OtsIn w S A ts→0<k→k+cntOts ts≤2 ^ 62→Calls Tryz.prog 88 #[.slice A ts.length c,.int .i64 k] w (MarkedOts w S A k ts)
def OMarking (w:World) (ga:Nat) (Ss:Nat→Nat→Prop) (ts:List Ot) (k j:Nat):Prop:=
 ∃ vs:Nat→Value,ElemRow 4 30 w ga ts.length vs∧(∀ i,(hi:i<ts.length)→i<j→OtIn w (Ss i) (vs i) (setHeadO (k+cntOts (ts.take i)) (markOt ts[i] (k+cntOts (ts.take i)+3))))∧(∀ i,(hi:i<ts.length)→j≤i→OtIn w (Ss i) (vs i) ts[i])
theorem OMarking.done {w:World} {S:Nat→Prop} {ga k:Nat} {Ss:Nat→Nat→Prop} {ts:List Ot} (h:OMarking w ga Ss ts k ts.length) (hm:ts.length≤maxLen) (hS:S ga) (h2:∀ i,i<ts.length→∀ b,Ss i b→S b∧b≠ga) (h3:∀ i j,i<ts.length→j<ts.length→i≠j→∀ b,Ss i b→¬ Ss j b):
  OtsIn w S (some ⟨ga,0,none⟩) (markOts ts k):=by
 obtain ⟨vs,h4,h5,_⟩:=h
 have hl:=markOts_len ts k
 refine ⟨by rw [hl];exact hm,ga,vs,Ss,.inr ⟨rfl,hS,by rw [hl];exact h4⟩,by rw [hl];exact h2,by rw [hl];exact h3,fun i hi=>?_⟩
 have hi':i<ts.length:=by omega
 have hg:=markOts_get ts k i hi'
 rw [List.getElem?_eq_getElem hi] at hg
 rw [Option.some.inj hg]
 exact h5 i hi' hi'
theorem OtIn.setHeadO {w:World} {S:Nat→Prop} {A:Option Addr} {ac:Nat} {k0 n0:Int} {nm0:ByteArray} {m:Nat} {t:Ot} (h:OtIn w S (.agg #[.int .i64 k0,.string nm0,.int .i64 n0,.slice A m ac]) t) (k:Nat) (hk:k+2≤2 ^ 62):OtIn w S (.agg #[.int .i64 k,.string (markB (k+1)),.int .i64 ((k+2:Nat):Int),.slice A m ac]) (setHeadO k t):=by
 have h62:=markB_size (k+1) (by omega)
 cases h with
 | mk ga vs Ss hnm hm hes hsub hdis hks=>exact .mk ga vs Ss (by unfold maxLen;omega) hm hes hsub hdis hks
theorem ElemRow.congrO {sz:Nat} {t:TypeId} {w:World} {g m:Nat} {vs vs':Nat→Value} (h:ElemRow sz t w g m vs) (he:∀ i,vs i=vs' i):ElemRow sz t w g m vs':=by
 have:vs=vs':=funext he
 rw [← this]
 exact h
theorem ElemRow.set4 {t:TypeId} {w:World} {g m:Nat} {vs:Nat→Value} {cs0:Array Value} {x:Value} {i o:Nat} (h:ElemRow 4 t w g m vs) (hi:i<m) (hv:vs i=.agg cs0) (ho:o<4) (hz:cs0.size=4):ElemRow 4 t (w.setCell ⟨g,i * 4+o,none⟩ x) g m (fun j=>if j=i then .agg (cs0.setIfInBounds o x) else vs j):=by
 obtain ⟨cs,h1,h2⟩:=h
 have hsz:i * 4+o<cs.size:=by
  have h3:=h2 i hi o ho
  have h4:=h3.1
  rw [← h3.2] at h4
  rcases Nat.lt_or_ge (i * 4+o) cs.size with h5 | h5
  ·exact h5
  ·rw [Array.getElem?_eq_none h5] at h4
   cases h4
 refine ⟨_,h1.set (i * 4+o) x,fun q hq j hj=>?_⟩
 dsimp only
 by_cases e:q=i
 ·subst e
  rw [if_pos rfl,Array.getElem?_setIfInBounds]
  have h3:=h2 q hi j hj
  rw [hv] at h3
  by_cases ej:o=j
  ·subst ej
   rw [if_pos rfl,if_pos hsz]
   simp [partAt,hz,ho]
  ·rw [if_neg (by omega)]
   simp only [partAt] at h3 ⊢
   rw [Array.getElem?_setIfInBounds,if_neg ej]
   exact h3
 ·rw [if_neg e,Array.getElem?_setIfInBounds,if_neg (by omega)]
  exact h2 q hq j hj
set_option maxHeartbeats 1000000 in
theorem markOpticS_of (ts:List Ot) (hall:∀ i,(h:i<ts.length)→MarkOMany ts[i].args):MarkOMany ts:=by
 intro S A c k w hA h0 h1
 obtain ⟨hm,ga,vs0,Ss,hrow,hsub,hdis,hks⟩:=hA
 have HALL:=Lib.hid hall
 clear hall
 rcases hrow with rfl | ⟨rfl,hSa,hrow⟩
 ·go_enter Tryz.func88,Tryz.ntmps88
  go_wp2
  go_loop [1,5] (fun m i=>m=.int .i64 (k:Int)∧i=.int .i64 0) (fun _ _=>0)
  case atStart=>exact ⟨rfl,rfl⟩
  case round=>
   obtain ⟨rfl,rfl⟩:=hrel
   go_wp2
   go_ret
   refine ⟨rfl,?_,OnlyIn.refl _ _⟩
   rw [markOts]
   exact ⟨hm,ga,vs0,Ss,.inl rfl,fun i hi=>absurd hi (by simp),fun i _ hi=>absurd hi (by simp),fun i hi=>absurd hi (by simp)⟩
 ·have HSUB:=Lib.hid hsub
  have HDIS:=Lib.hid hdis
  have HM:=Lib.hid hm
  have hstart:OMarking w ga Ss ts k 0:=⟨vs0,hrow,fun i _ hi=>absurd hi (by omega),fun i hi _=>hks i hi⟩
  unfold maxLen at hm
  clear hrow hks hsub hdis
  go_enter Tryz.func88,Tryz.ntmps88
  go_wp2
  go_loopw [1,5] (fun m i wr=>∃ j q:Nat,j≤ts.length∧i=.int .i64 j∧m=.int .i64 (q:Int)∧Hid (q=k+cntOts (ts.take j))∧OMarking wr ga Ss ts k j∧OnlyIn S w wr) (fun _ i _=>ts.length - (intOf i).toNat)
  case atStart=>exact ⟨0,k,Nat.zero_le _,rfl,rfl,Lib.hid (by simp [cntOts]),hstart,OnlyIn.refl _ _⟩
  case round=>
   obtain ⟨j,q,hj,rfl,rfl,hq,hM,ho⟩:=hrel
   clear hstart
   by_cases hlt:j<ts.length
   ·have hc1:=Lib.hid (cntOts_take ts j hlt)
    have hc2:=cntOts_le ts (j+1)
    have hc4:=Lib.hid (cntOt_eq ts[j])
    have hq1:q+3+cntOts ts[j].args≤2 ^ 62:=by have:=hc1.out;have:=hc4.out;have:=hq.out;omega
    obtain ⟨vs,hrow,hdone,hrest⟩:=hM
    obtain ⟨A',ac,hv,hnm,ha⟩:=(hrest j hlt (Nat.le_refl _)).open
    have hcell:=fun (o:Nat) (ho:o<4)=>(hrow.cell j o hlt ho).trans (congrArg (partAt · o) hv)
    have q0:wr.cell? ⟨ga,j * 4,none⟩=some (.int .i64 ts[j].kind):=hcell 0 (by omega)
    have q0':wr.frozen? ⟨ga,j * 4,none⟩=false:=hrow.free _
    have R1:ElemRow 4 30 (wr.setCell ⟨ga,j * 4,none⟩ (.int .i64 (q:Int))) ga ts.length (fun i=>if i=j then .agg #[.int .i64 (q:Int),.string ts[j].name,.int .i64 ts[j].num,.slice A' ts[j].args.length ac] else vs i):=(hrow.set4 (x:=.int .i64 (q:Int)) (o:=0) hlt hv (by omega) rfl).congrO fun i=>by
     by_cases e:i=j
     ·rw [if_pos e,if_pos e];rfl
     ·rw [if_neg e,if_neg e]
    have hgal:=hrow.lt
    have HR2a:=Lib.hid R1
    have hkeep0:=Lib.hid (fun b (hb:b≠ga)=>Below.heap_setCell wr ⟨ga,j * 4,none⟩ (.int .i64 (q:Int)) b hb)
    have HD:=Lib.hid hdone
    have HV:=Lib.hid hv
    have HE:=Lib.hid hrest
    have HA':=Lib.hid ha
    have ho0:=Lib.hid (ho.set hSa (j * 4) (.int .i64 (q:Int)))
    have hs0:wr.heap.size≤(wr.setCell ⟨ga,j * 4,none⟩ (.int .i64 (q:Int))).heap.size:=by simp [World.setCell]
    have HMT:=Lib.hid (fun W=>(show Calls Tryz.prog 89 #[.int .i64 ((q:Int)+1)] W fun e w'=>e=.returned (.string (markB (q+1)))∧Below W.heap.size W w' by
     have:=markText_any (q+1) W (by omega) (by omega)
     rw [show ((q+1:Nat):Int)=(q:Int)+1 by omega] at this
     exact this))
    clear hrow hdone hrest hv ha hcell R1
    go_wp2_with fail
    clear q0 q0'
    generalize (wr.setCell ⟨ga,j * 4,none⟩ (.int .i64 (q:Int)))=w2a at *
    refine (HMT.out w2a).mono ?_
    rintro e wm ⟨rfl,hbm⟩
    have R2m:=HR2a.out.keep (hbm.block ga (by omega))
    have q1:wm.cell? ⟨ga,j * 4+1,none⟩=some (.string ts[j].name):=by
     have:=R2m.cell j 1 hlt (by omega)
     rw [if_pos rfl] at this
     exact this
    have q1':wm.frozen? ⟨ga,j * 4+1,none⟩=false:=R2m.free _
    have hrow1:Hid (ElemRow 4 30 (wm.setCell ⟨ga,j * 4+1,none⟩ (.string (markB (q+1)))) ga ts.length (fun i=>if i=j then .agg #[.int .i64 (q:Int),.string (markB (q+1)),.int .i64 ts[j].num,.slice A' ts[j].args.length ac] else vs i)):=Lib.hid ((R2m.set4 (x:=.string (markB (q+1))) (o:=1) hlt (by rw [if_pos rfl]) (by omega) rfl).congrO fun i=>by
     by_cases e:i=j
     ·rw [if_pos e,if_pos e];rfl
     ·rw [if_neg e,if_neg e,if_neg e])
    have q2:(wm.setCell ⟨ga,j * 4+1,none⟩ (.string (markB (q+1)))).cell? ⟨ga,j * 4+2,none⟩=some (.int .i64 ts[j].num):=by
     have:=hrow1.out.cell j 2 hlt (by omega)
     rw [if_pos rfl] at this
     exact this
    have q2':(wm.setCell ⟨ga,j * 4+1,none⟩ (.string (markB (q+1)))).frozen? ⟨ga,j * 4+2,none⟩=false:=hrow1.out.free _
    have hrow2:Hid (ElemRow 4 30 ((wm.setCell ⟨ga,j * 4+1,none⟩ (.string (markB (q+1)))).setCell ⟨ga,j * 4+2,none⟩ (.int .i64 ((q:Int)+1+1))) ga ts.length (fun i=>if i=j then .agg #[.int .i64 (q:Int),.string (markB (q+1)),.int .i64 ((q:Int)+1+1),.slice A' ts[j].args.length ac] else vs i)):=Lib.hid ((hrow1.out.set4 (x:=.int .i64 ((q:Int)+1+1)) (o:=2) hlt (by rw [if_pos rfl]) (by omega) rfl).congrO fun i=>by
     by_cases e:i=j
     ·rw [if_pos e,if_pos e];rfl
     ·rw [if_neg e,if_neg e,if_neg e])
    have q3:((wm.setCell ⟨ga,j * 4+1,none⟩ (.string (markB (q+1)))).setCell ⟨ga,j * 4+2,none⟩ (.int .i64 ((q:Int)+1+1))).cell? ⟨ga,j * 4+3,none⟩=some (.slice A' ts[j].args.length ac):=by
     have:=hrow2.out.cell j 3 hlt (by omega)
     rw [if_pos rfl] at this
     exact this
    have hsm:=hbm.size
    have hkeep:Hid (∀ b,b≠ga→b<wr.heap.size→((wm.setCell ⟨ga,j * 4+1,none⟩ (.string (markB (q+1)))).setCell ⟨ga,j * 4+2,none⟩ (.int .i64 ((q:Int)+1+1))).heap[b]?=wr.heap[b]?):=Lib.hid fun b hb hlt'=>(Below.heap_setCell (wm.setCell ⟨ga,j * 4+1,none⟩ (.string (markB (q+1)))) ⟨ga,j * 4+2,none⟩ _ b hb).trans ((Below.heap_setCell wm ⟨ga,j * 4+1,none⟩ _ b hb).trans ((hbm.block b (by omega)).trans (hkeep0.out b hb)))
    have ho1:=Lib.hid (((ho0.out.trans (OnlyIn.of_below hbm)).set hSa (j * 4+1) (.string (markB (q+1)))).set hSa (j * 4+2) (.int .i64 ((q:Int)+1+1)))
    have hs1:wr.heap.size≤((wm.setCell ⟨ga,j * 4+1,none⟩ (.string (markB (q+1)))).setCell ⟨ga,j * 4+2,none⟩ (.int .i64 ((q:Int)+1+1))).heap.size:=by simp [World.setCell];omega
    clear R2m hbm HR2a hrow1
    go_wp2_with fail
    clear q1 q1' q2 q2' q3
    generalize (wm.setCell ⟨ga,j * 4+1,none⟩ (.string (markB (q+1)))).setCell ⟨ga,j * 4+2,none⟩ (.int .i64 ((q:Int)+1+1))=w1 at *
    have ha2:=Lib.hid (HA'.out.keep (fun b hb hlt'=>hkeep.out b (HSUB.out j hlt _ hb).2 hlt'))
    refine (HALL.out j hlt _ _ ac (q+3) w1 ha2.out (by omega) (by omega)).mono ?_
    rintro e w3 ⟨rfl,ht3,ho3⟩
    have hs3:=ho3.size
    have HT3:=Lib.hid ht3
    have hM3:Hid (OMarking w3 ga Ss ts k (j+1)):=by
     apply Lib.hid
     have hqe:=hq.out
     refine ⟨_,hrow2.out.keep (ho3.block ga (by omega) fun h=>(HSUB.out j hlt _ h).2 rfl),fun i hi hij=>?_,fun i hi hij=>?_⟩
     ·by_cases e:i=j
      ·subst e
       rw [if_pos rfl,← hqe]
       rw [show (q:Int)+1+1=((q+2:Nat):Int) by omega]
       exact OtIn.setHeadO (k0:=ts[i].kind) (n0:=ts[i].num) (nm0:=ts[i].name) (markOIn (q+3) hnm HT3.out) q (by omega)
      ·rw [if_neg e]
       refine (HD.out i hi (by omega)).keep fun b hb hbl=>?_
       rw [ho3.block b (by omega) fun h=>HDIS.out i j hi hlt e b hb h]
       exact hkeep.out b (HSUB.out i hi b hb).2 hbl
     ·have e:i≠j:=by omega
      rw [if_neg e]
      refine (HE.out i hi (by omega)).keep fun b hb hbl=>?_
      rw [ho3.block b (by omega) fun h=>HDIS.out i j hi hlt e b hb h]
      exact hkeep.out b (HSUB.out i hi b hb).2 hbl
    have hO3:=Lib.hid (ho1.out.trans (ho3.wide fun b hb=>(HSUB.out j hlt _ hb).1))
    clear ht3 ho3
    go_wp2
    go_roundw
    case rel=>exact ⟨j+1,q+3+cntOts ts[j].args,by omega,by go_num,rfl,Lib.hid (by have:=hc1.out;have:=hc4.out;have:=hq.out;omega),hM3.out,hO3.out⟩
    case measure=>simp [intOf];omega
   ·have hje:j=ts.length:=by omega
    subst hje
    rw [List.take_length] at hq
    have hqe:=hq.out
    have HQ:=Lib.hid hqe
    clear hqe
    have HMk:=Lib.hid hM
    clear hM
    go_wp2
    go_ret
    exact ⟨by rw [HQ.out];rfl,HMk.out.done HM.out hSa HSUB.out HDIS.out,ho⟩
end
section
open Go.RowKit
theorem markOMany_any (t:Ot):MarkOMany t.args:=by
 induction t using Ot.ind with
 | h k n nm ts ih=>exact markOpticS_of ts ih
def MarkedOt (w:World) (S:Nat→Prop) (v:Value) (k:Nat) (t:Ot) (e:Ending) (w':World):Prop:=
 e=.returned (.int .i64 ((k+cntOt t:Nat):Int))∧OtIn w' S v (markOt t k)∧OnlyIn S w w'
set_option maxHeartbeats 1000000 in
theorem markOptic_any (t:Ot) (S:Nat→Prop) (v:Value) (k:Nat) (w:World) (hv:OtIn w S v t) (h0:0<k) (h1:k+cntOt t≤2 ^ 62):
  Calls Tryz.prog 43 #[v,.int .i64 k] w (MarkedOt w S v k t):=by
 have hc:=Lib.hid (cntOt_eq t)
 have hq1:k+cntOts t.args≤2 ^ 62:=by have:=hc.out;omega
 obtain ⟨A,ac,rfl,hnm,ha⟩:=hv.open
 obtain ⟨hb0,p0,hs0⟩:=boxes1 w 30 #[.int .i64 t.kind,.string t.name,.int .i64 t.num,.slice A t.args.length ac]
 have hk0:∀ b,b<w.heap.size→(w.alloc (.cells #[.int .i64 t.kind,.string t.name,.int .i64 t.num,.slice A t.args.length ac] 30)).heap[b]?=w.heap[b]?:=fun b hb=>hb0.block b hb
 have HA:=Lib.hid (ha.keep (fun b _ hb=>hk0 b hb))
 clear ha hv hk0
 go_enter Tryz.func43,Tryz.ntmps43
 go_wp2_with fail
 generalize w.alloc (.cells #[.int .i64 t.kind,.string t.name,.int .i64 t.num,.slice A t.args.length ac] 30)=w0 at *
 have HZ:=Lib.hid hs0
 clear hs0
 refine (markOMany_any t S A ac k w0 HA.out h0 hq1).mono ?_
 rintro e w2 ⟨rfl,ht2,ho2⟩
 have HT:=Lib.hid ht2
 have hO:OnlyIn S w w2:=(OnlyIn.of_below hb0).trans ho2
 clear ht2
 go_wp2
 go_ret
 exact ⟨by rw [hc.out];rfl,markOIn k hnm HT.out,hO⟩
end
end Go.Proofs.YtfnblkcmcfofoaaGreatDoor
