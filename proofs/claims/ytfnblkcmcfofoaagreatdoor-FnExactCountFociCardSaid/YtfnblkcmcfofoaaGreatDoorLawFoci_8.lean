/- Lemmas: MarkVa, HeldVa, SpecTy2. -/
import Derived.Test.YtfnblkcmcfofoaaGreatDoorLawFoci_6
import Derived.Test.YtfnblkcmcfofoaaGreatDoorLawFoci_7
import Derived.Test.YtfnblkcmcfofoaaGreatDoorLawFoci_4

namespace Go.Proofs.YtfnblkcmcfofoaaGreatDoor
section
open Go.RowKit
mutual
def cntVa:Va→Nat | .mk _ _ _ ls ts=>ls.length+cntVas ts
def cntVas:List Va→Nat | []=>0 | t::r=>3+cntVa t+cntVas r
end
def setHead (k:Nat):Va→Va | .mk _ _ _ ls ts=>.mk k (k+1:Nat) (markB (k+2)) ls ts
mutual
def markVa:Va→Nat→Va | .mk d n nm ls ts,k=>.mk d n nm (marks k ls.length) (markVas ts (k+ls.length))
def markVas:List Va→Nat→List Va | [],_=>[] | t::r,k=>setHead k (markVa t (k+3))::markVas r (k+3+cntVa t)
end
theorem cntVa_eq (t:Va):cntVa t=t.labels.length+cntVas t.args:=by cases t;rw [cntVa];rfl
theorem cntVas_append:∀ (a b:List Va),cntVas (a++b)=cntVas a+cntVas b
 | [],b=>by simp [cntVas]
 | t::a,b=>by
  rw [List.cons_append,cntVas,cntVas,cntVas_append a b]
  omega
theorem cntVas_take (ts:List Va) (k:Nat) (h:k<ts.length):cntVas (ts.take (k+1))=cntVas (ts.take k)+3+cntVa ts[k]:=by
 rw [List.take_succ_eq_append_getElem h,cntVas_append,cntVas,cntVas]
 omega
theorem cntVas_le (ts:List Va) (k:Nat):cntVas (ts.take k)≤cntVas ts:=by
 have h:=cntVas_append (ts.take k) (ts.drop k)
 rw [List.take_append_drop] at h
 omega
theorem markVas_len:∀ (ts:List Va) (k:Nat),(markVas ts k).length=ts.length
 | [],_=>by rw [markVas]
 | t::r,k=>by rw [markVas,List.length_cons,List.length_cons,markVas_len r]
theorem markVas_get:∀ (ts:List Va) (k i:Nat) (h:i<ts.length),(markVas ts k)[i]?=some (setHead (k+cntVas (ts.take i)) (markVa ts[i] (k+cntVas (ts.take i)+3)))
 | [],_,i,h=>absurd h (by simp)
 | t::r,k,0,_=>by rw [markVas];simp [cntVas]
 | t::r,k,i+1,h=>by
  rw [markVas,List.getElem?_cons_succ,markVas_get r _ i (by simpa using h)]
  simp only [List.take_succ_cons,cntVas,List.getElem_cons_succ]
  rw [show k+3+cntVa t+cntVas (r.take i)=k+(3+cntVa t+cntVas (r.take i)) by omega]
mutual
theorem cnt_le_szV:∀ (t:Va),cntVa t≤3 * szVa t
 | .mk _ _ _ ls ts=>by
  rw [cntVa,szVa]
  have:=cnts_le_szVs ts
  omega
theorem cnts_le_szVs:∀ (ts:List Va),cntVas ts≤3 * szVas ts
 | []=>by simp [cntVas]
 | t::r=>by
  rw [cntVas,szVas]
  have:=cnt_le_szV t
  have:=cnts_le_szVs r
  omega
end
theorem markVIn {w:World} {S Sa:Nat→Prop} {L A:Option Addr} {lc ac gl:Nat} {t:Va} (q:Nat) (hnm:t.name.size≤maxLen) (hn:t.labels.length≤maxLen) (hq:q+t.labels.length≤2 ^ 62)
  (hl:t.labels=[]∨L=some ⟨gl,0,none⟩∧S gl∧RowStrs w gl (marks q t.labels.length)) (ha:VasIn w Sa A (markVas t.args (q+t.labels.length))) (hs:∀ b,Sa b→S b∧b≠gl):
  VaIn w S (.agg #[.int .i64 t.kind,.int .i64 t.num,.string t.name,.slice L t.labels.length lc,.slice A t.args.length ac]) (markVa t q):=by
 cases t with
 | mk k n nm ls ts=>
  simp only [Va.labels,Va.args,Va.kind,Va.num,Va.name] at *
  rw [markVa]
  have hll:=marks_len q ls.length
  have hal:=markVas_len ts (q+ls.length)
  have h:=VaIn.of (w:=w) (S:=S) (Sa:=Sa) (L:=L) (A:=A) (lc:=lc) (ac:=ac) (gl:=gl) (t:=.mk k n nm (marks q ls.length) (markVas ts (q+ls.length))) hnm (by simp only [Va.labels];rw [hll];exact hn)
   (fun x hx=>by
    simp only [Va.labels] at hx ⊢
    rw [hll] at hx
    have h62:=markB_size (q+x) (by omega)
    have e:(marks q ls.length)[x]'(by rw [hll];exact hx)=markB (q+x):=by simp [marks]
    rw [e]
    unfold maxLen
    omega)
   (by
    simp only [Va.labels]
    rcases hl with h | h
    ·left
     rw [h]
     rfl
    ·exact .inr h)
   ha hs
  simp only [Va.labels,Va.args,Va.kind,Va.num,Va.name] at h
  rw [hll,hal] at h
  exact h
def MarkedVas (w:World) (S:Nat→Prop) (A:Option Addr) (k:Nat) (ts:List Va) (e:Ending) (w':World):Prop:=
 e=.returned (.int .i64 ((k+cntVas ts:Nat):Int))∧VasIn w' S A (markVas ts k)∧OnlyIn S w w'
def MarkVMany (ts:List Va):Prop:=∀ (S:Nat→Prop) (A:Option Addr) (c k:Nat) (w:World),VasIn w S A ts→0<k→k+cntVas ts≤2 ^ 62→Calls Tryz.prog 45 #[.slice A ts.length c,.int .i64 k] w (MarkedVas w S A k ts)
def VMarking (w:World) (ga:Nat) (Ss:Nat→Nat→Prop) (ts:List Va) (k j:Nat):Prop:=
 ∃ vs:Nat→Value,ElemRow 5 41 w ga ts.length vs∧(∀ i,(hi:i<ts.length)→i<j→VaIn w (Ss i) (vs i) (setHead (k+cntVas (ts.take i)) (markVa ts[i] (k+cntVas (ts.take i)+3))))∧(∀ i,(hi:i<ts.length)→j≤i→VaIn w (Ss i) (vs i) ts[i])
theorem VMarking.done {w:World} {S:Nat→Prop} {ga k:Nat} {Ss:Nat→Nat→Prop} {ts:List Va} (h:VMarking w ga Ss ts k ts.length) (hm:ts.length≤maxLen) (hS:S ga) (h2:∀ i,i<ts.length→∀ b,Ss i b→S b∧b≠ga) (h3:∀ i j,i<ts.length→j<ts.length→i≠j→∀ b,Ss i b→¬ Ss j b):
  VasIn w S (some ⟨ga,0,none⟩) (markVas ts k):=by
 obtain ⟨vs,h4,h5,_⟩:=h
 have hl:=markVas_len ts k
 refine ⟨by rw [hl];exact hm,ga,vs,Ss,.inr ⟨rfl,hS,by rw [hl];exact h4⟩,by rw [hl];exact h2,by rw [hl];exact h3,fun i hi=>?_⟩
 have hi':i<ts.length:=by omega
 have hg:=markVas_get ts k i hi'
 rw [List.getElem?_eq_getElem hi] at hg
 rw [Option.some.inj hg]
 exact h5 i hi' hi'
theorem VaIn.setHead {w:World} {S:Nat→Prop} {L A:Option Addr} {lc ac:Nat} {k0 n0:Int} {nm0:ByteArray} {n m:Nat} {t:Va} (h:VaIn w S (.agg #[.int .i64 k0,.int .i64 n0,.string nm0,.slice L n lc,.slice A m ac]) t) (k:Nat) (hk:k+2≤2 ^ 62):VaIn w S (.agg #[.int .i64 k,.int .i64 ((k+1:Nat):Int),.string (markB (k+2)),.slice L n lc,.slice A m ac]) (setHead k t):=by
 have h62:=markB_size (k+2) (by omega)
 cases h with
 | mk gl ga vs Ss hnm hn hz hm hls hes hne hsub hdis hks=>exact .mk gl ga vs Ss (by unfold maxLen;omega) hn hz hm hls hes hne hsub hdis hks
theorem ElemRow.congr {sz:Nat} {t:TypeId} {w:World} {g m:Nat} {vs vs':Nat→Value} (h:ElemRow sz t w g m vs) (he:∀ i,vs i=vs' i):ElemRow sz t w g m vs':=by
 have:vs=vs':=funext he
 rw [← this]
 exact h
theorem ElemRow.set5 {t:TypeId} {w:World} {g m:Nat} {vs:Nat→Value} {cs0:Array Value} {x:Value} {i o:Nat} (h:ElemRow 5 t w g m vs) (hi:i<m) (hv:vs i=.agg cs0) (ho:o<5) (hz:cs0.size=5):ElemRow 5 t (w.setCell ⟨g,i * 5+o,none⟩ x) g m (fun j=>if j=i then .agg (cs0.setIfInBounds o x) else vs j):=by
 obtain ⟨cs,h1,h2⟩:=h
 have hsz:i * 5+o<cs.size:=by
  have h3:=h2 i hi o ho
  have h4:=h3.1
  rw [← h3.2] at h4
  rcases Nat.lt_or_ge (i * 5+o) cs.size with h5 | h5
  ·exact h5
  ·rw [Array.getElem?_eq_none h5] at h4
   cases h4
 refine ⟨_,h1.set (i * 5+o) x,fun q hq j hj=>?_⟩
 dsimp only
 by_cases e:q=i
 ·subst e
  rw [if_pos rfl,Array.getElem?_setIfInBounds]
  have h3:=h2 q hi j hj
  rw [hv] at h3
  by_cases ej:o=j
  ·subst ej
   rw [if_pos rfl,if_pos hsz]
   simp [partAt,hz,ho]
  ·rw [if_neg (by omega)]
   simp only [partAt] at h3 ⊢
   rw [Array.getElem?_setIfInBounds,if_neg ej]
   exact h3
 ·rw [if_neg e,Array.getElem?_setIfInBounds,if_neg (by omega)]
  exact h2 q hq j hj
set_option maxHeartbeats 1000000 in
theorem markValueS_of (ts:List Va) (hall:∀ i,(h:i<ts.length)→MarkVMany ts[i].args):MarkVMany ts:=by
 intro S A c k w hA h0 h1
 obtain ⟨hm,ga,vs0,Ss,hrow,hsub,hdis,hks⟩:=hA
 have HALL:=Lib.hid hall
 clear hall
 rcases hrow with rfl | ⟨rfl,hSa,hrow⟩
 ·go_enter Tryz.func45,Tryz.ntmps45
  go_wp2
  go_loop [1,5] (fun m i=>m=.int .i64 (k:Int)∧i=.int .i64 0) (fun _ _=>0)
  case atStart=>exact ⟨rfl,rfl⟩
  case round=>
   obtain ⟨rfl,rfl⟩:=hrel
   go_wp2
   go_ret
   refine ⟨rfl,?_,OnlyIn.refl _ _⟩
   rw [markVas]
   exact ⟨hm,ga,vs0,Ss,.inl rfl,fun i hi=>absurd hi (by simp),fun i _ hi=>absurd hi (by simp),fun i hi=>absurd hi (by simp)⟩
 ·have HSUB:=Lib.hid hsub
  have HDIS:=Lib.hid hdis
  have HM:=Lib.hid hm
  have hstart:VMarking w ga Ss ts k 0:=⟨vs0,hrow,fun i _ hi=>absurd hi (by omega),fun i hi _=>hks i hi⟩
  unfold maxLen at hm
  clear hrow hks hsub hdis
  go_enter Tryz.func45,Tryz.ntmps45
  go_wp2
  go_loopw [1,5] (fun m i wr=>∃ j q:Nat,j≤ts.length∧i=.int .i64 j∧m=.int .i64 (q:Int)∧Hid (q=k+cntVas (ts.take j))∧VMarking wr ga Ss ts k j∧OnlyIn S w wr) (fun _ i _=>ts.length - (intOf i).toNat)
  case atStart=>exact ⟨0,k,Nat.zero_le _,rfl,rfl,Lib.hid (by simp [cntVas]),hstart,OnlyIn.refl _ _⟩
  case round=>
   obtain ⟨j,q,hj,rfl,rfl,hq,hM,ho⟩:=hrel
   clear hstart
   by_cases hlt:j<ts.length
   ·have hc1:=Lib.hid (cntVas_take ts j hlt)
    have hc2:=cntVas_le ts (j+1)
    have hc4:=Lib.hid (cntVa_eq ts[j])
    have hq1:q+3+ts[j].labels.length+cntVas ts[j].args≤2 ^ 62:=by have:=hc1.out;have:=hc4.out;have:=hq.out;omega
    obtain ⟨vs,hrow,hdone,hrest⟩:=hM
    obtain ⟨L,lc,A',ac,gl,hv,hnm,hn,hz,hl,ha⟩:=(hrest j hlt (Nat.le_refl _)).open
    have hglS:ts[j].labels=[]∨Ss j gl∧gl<wr.heap.size:=hl.imp id fun ⟨_,h,h'⟩=>⟨h,h'.lt⟩
    have hcell:=fun (o:Nat) (ho:o<5)=>(hrow.cell j o hlt ho).trans (congrArg (partAt · o) hv)
    have q0:wr.cell? ⟨ga,j * 5,none⟩=some (.int .i64 ts[j].kind):=hcell 0 (by omega)
    have q0':wr.frozen? ⟨ga,j * 5,none⟩=false:=hrow.free _
    have R1:ElemRow 5 41 (wr.setCell ⟨ga,j * 5,none⟩ (.int .i64 (q:Int))) ga ts.length (fun i=>if i=j then .agg #[.int .i64 (q:Int),.int .i64 ts[j].num,.string ts[j].name,.slice L ts[j].labels.length lc,.slice A' ts[j].args.length ac] else vs i):=(hrow.set5 (x:=.int .i64 (q:Int)) (o:=0) hlt hv (by omega) rfl).congr fun i=>by
     by_cases e:i=j
     ·rw [if_pos e,if_pos e];rfl
     ·rw [if_neg e,if_neg e]
    have R2:ElemRow 5 41 ((wr.setCell ⟨ga,j * 5,none⟩ (.int .i64 (q:Int))).setCell ⟨ga,j * 5+1,none⟩ (.int .i64 ((q:Int)+1))) ga ts.length (fun i=>if i=j then .agg #[.int .i64 (q:Int),.int .i64 ((q:Int)+1),.string ts[j].name,.slice L ts[j].labels.length lc,.slice A' ts[j].args.length ac] else vs i):=(R1.set5 (x:=.int .i64 ((q:Int)+1)) (o:=1) hlt (by rw [if_pos rfl]) (by omega) rfl).congr fun i=>by
     by_cases e:i=j
     ·rw [if_pos e,if_pos e];rfl
     ·rw [if_neg e,if_neg e,if_neg e]
    have q1:(wr.setCell ⟨ga,j * 5,none⟩ (.int .i64 (q:Int))).cell? ⟨ga,j * 5+1,none⟩=some (.int .i64 ts[j].num):=by
     have:=R1.cell j 1 hlt (by omega)
     rw [if_pos rfl] at this
     exact this
    have q1':(wr.setCell ⟨ga,j * 5,none⟩ (.int .i64 (q:Int))).frozen? ⟨ga,j * 5+1,none⟩=false:=R1.free _
    have hgal:=hrow.lt
    have HR2a:=Lib.hid R2
    have hkeep0:=Lib.hid (fun b (hb:b≠ga)=>(Below.heap_setCell (wr.setCell ⟨ga,j * 5,none⟩ (.int .i64 (q:Int))) ⟨ga,j * 5+1,none⟩ (.int .i64 ((q:Int)+1)) b hb).trans (Below.heap_setCell wr ⟨ga,j * 5,none⟩ (.int .i64 (q:Int)) b hb))
    have HD:=Lib.hid hdone
    have HV:=Lib.hid hv
    have HE:=Lib.hid hrest
    have HA':=Lib.hid ha
    have HL:=Lib.hid hl
    have HZ:=Lib.hid hz
    have ho0:=Lib.hid ((ho.set hSa (j * 5) (.int .i64 (q:Int))).set hSa (j * 5+1) (.int .i64 ((q:Int)+1)))
    have hs0:wr.heap.size≤((wr.setCell ⟨ga,j * 5,none⟩ (.int .i64 (q:Int))).setCell ⟨ga,j * 5+1,none⟩ (.int .i64 ((q:Int)+1))).heap.size:=by simp [World.setCell]
    have HMT:=Lib.hid (fun W=>(show Calls Tryz.prog 89 #[.int .i64 ((q:Int)+1+1)] W fun e w'=>e=.returned (.string (markB (q+2)))∧Below W.heap.size W w' by
     have:=markText_any (q+2) W (by omega) (by omega)
     rw [show ((q+2:Nat):Int)=(q:Int)+1+1 by omega] at this
     exact this))
    have HML:=Lib.hid (fun (W:World) (hW:ts[j].labels=[]∨L=some ⟨gl,0,none⟩∧RowStrs W gl ts[j].labels)=>(show Calls Tryz.prog 86 #[.slice L ts[j].labels.length lc,.int .i64 ((q:Int)+1+1+1)] W (MarkedLs W gl (q+3) ts[j].labels) by
     have:=markLabels L lc (q+3) gl ts[j].labels W hW (by omega) (by omega)
     rw [show ((q+3:Nat):Int)=(q:Int)+1+1+1 by omega] at this
     exact this))
    clear hrow hdone hrest hv ha hl hz hcell R1 R2
    go_wp2_with fail
    clear q0 q0' q1 q1'
    generalize ((wr.setCell ⟨ga,j * 5,none⟩ (.int .i64 (q:Int))).setCell ⟨ga,j * 5+1,none⟩ (.int .i64 ((q:Int)+1)))=w2a at *
    refine (HMT.out w2a).mono ?_
    rintro e wm ⟨rfl,hbm⟩
    have R2m:=HR2a.out.keep (hbm.block ga (by omega))
    have q2:wm.cell? ⟨ga,j * 5+2,none⟩=some (.string ts[j].name):=by
     have:=R2m.cell j 2 hlt (by omega)
     rw [if_pos rfl] at this
     exact this
    have q2':wm.frozen? ⟨ga,j * 5+2,none⟩=false:=R2m.free _
    have hrow1:Hid (ElemRow 5 41 (wm.setCell ⟨ga,j * 5+2,none⟩ (.string (markB (q+2)))) ga ts.length (fun i=>if i=j then .agg #[.int .i64 (q:Int),.int .i64 ((q:Int)+1),.string (markB (q+2)),.slice L ts[j].labels.length lc,.slice A' ts[j].args.length ac] else vs i)):=Lib.hid ((R2m.set5 (x:=.string (markB (q+2))) (o:=2) hlt (by rw [if_pos rfl]) (by omega) rfl).congr fun i=>by
     by_cases e:i=j
     ·rw [if_pos e,if_pos e];rfl
     ·rw [if_neg e,if_neg e,if_neg e])
    have q3:(wm.setCell ⟨ga,j * 5+2,none⟩ (.string (markB (q+2)))).cell? ⟨ga,j * 5+3,none⟩=some (.slice L ts[j].labels.length lc):=by
     have:=hrow1.out.cell j 3 hlt (by omega)
     rw [if_pos rfl] at this
     exact this
    have hsm:=hbm.size
    have hkeep:Hid (∀ b,b≠ga→b<wr.heap.size→(wm.setCell ⟨ga,j * 5+2,none⟩ (.string (markB (q+2)))).heap[b]?=wr.heap[b]?):=Lib.hid fun b hb hlt'=>(Below.heap_setCell wm ⟨ga,j * 5+2,none⟩ _ b hb).trans ((hbm.block b (by omega)).trans (hkeep0.out b hb))
    have ho1:=Lib.hid ((ho0.out.trans (OnlyIn.of_below hbm)).set hSa (j * 5+2) (.string (markB (q+2))))
    have hs1:wr.heap.size≤(wm.setCell ⟨ga,j * 5+2,none⟩ (.string (markB (q+2)))).heap.size:=by simp [World.setCell];omega
    clear R2m hbm HR2a
    go_wp2_with fail
    clear q2 q2' q3
    generalize wm.setCell ⟨ga,j * 5+2,none⟩ (.string (markB (q+2)))=w1 at *
    have hl1:ts[j].labels=[]∨L=some ⟨gl,0,none⟩∧RowStrs w1 gl ts[j].labels:=HL.out.imp id fun ⟨h1,h2,h3⟩=>⟨h1,h3.same (hkeep.out gl (HSUB.out j hlt _ h2).2 h3.lt)⟩
    refine (HML.out w1 hl1).mono ?_
    rintro e w2 ⟨rfl,hl2,ho2⟩
    have hs2:=ho2.size
    have hng:¬ (ga=gl∧ts[j].labels≠[]):=fun ⟨h1,h2⟩=>by
     rcases hglS with h | ⟨h,_⟩
     ·exact h2 h
     ·exact (HSUB.out j hlt _ h).2 h1.symm
    have hrow2:=hrow1.out.keep (ho2.block ga (by omega) hng)
    have q2:w2.cell? ⟨ga,j * 5+4,none⟩=some (.slice A' ts[j].args.length ac):=by
     have:=hrow2.cell j 4 hlt (by omega)
     rw [if_pos rfl] at this
     exact this
    have ha2:=Lib.hid ((HA'.out.keep (fun b hb hlt'=>hkeep.out b (HSUB.out j hlt _ hb.1).2 hlt')).keep (fun b hb hlt'=>ho2.block b hlt' fun h=>hb.2 h.1))
    have HT:=Lib.hid (HALL.out j hlt _ _ ac (q+3+ts[j].labels.length) w2 ha2.out (by omega) (by omega))
    have HR2:=Lib.hid hrow2
    clear hrow2
    go_wp2_with fail
    refine HT.out.mono ?_
    rintro e w3 ⟨rfl,ht3,ho3⟩
    have hs3:=ho3.size
    have HT3:=Lib.hid ht3
    have hM3:Hid (VMarking w3 ga Ss ts k (j+1)):=by
     apply Lib.hid
     have hqe:=hq.out
     refine ⟨_,HR2.out.keep (ho3.block ga (by omega) fun h=>(HSUB.out j hlt _ h.1).2 rfl),fun i hi hij=>?_,fun i hi hij=>?_⟩
     ·by_cases e:i=j
      ·subst e
       rw [if_pos rfl,← hqe]
       rw [show (q:Int)+1=((q+1:Nat):Int) by omega]
       refine VaIn.setHead (k0:=ts[i].kind) (n0:=ts[i].num) (nm0:=ts[i].name) ?_ q (by omega)
       exact markVIn (Sa:=fun b=>Ss i b∧b≠gl) (q+3) hnm hn (by omega) (by
        rcases hl2 with h | h
        ·exact .inl h
        ·rcases HL.out with h5 | ⟨h5,h6,_⟩
         ·exact .inl h5
         ·exact .inr ⟨h5,h6,h.same (ho3.block gl h.lt fun h=>h.2 rfl)⟩) HT3.out (fun b hb=>hb)
      ·rw [if_neg e]
       refine (HD.out i hi (by omega)).keep fun b hb hbl=>?_
       rw [ho3.block b (by omega) fun h=>HDIS.out i j hi hlt e b hb h.1,ho2.block b (by omega) fun h=>by
        rcases hglS with h5 | ⟨h5,_⟩
        ·exact h.2 h5
        ·exact HDIS.out i j hi hlt e b hb (by rw [h.1];exact h5)]
       exact hkeep.out b (HSUB.out i hi b hb).2 hbl
     ·have e:i≠j:=by omega
      rw [if_neg e]
      refine (HE.out i hi (by omega)).keep fun b hb hbl=>?_
      rw [ho3.block b (by omega) fun h=>HDIS.out i j hi hlt e b hb h.1,ho2.block b (by omega) fun h=>by
       rcases hglS with h5 | ⟨h5,_⟩
       ·exact h.2 h5
       ·exact HDIS.out i j hi hlt e b hb (by rw [h.1];exact h5)]
      exact hkeep.out b (HSUB.out i hi b hb).2 hbl
    have hO3:=Lib.hid ((ho1.out.trans (ho2.wide fun b hb=>by
     rcases hglS with h5 | ⟨h5,_⟩
     ·exact absurd h5 hb.2
     ·rw [hb.1];exact (HSUB.out j hlt _ h5).1)).trans (ho3.wide fun b hb=>(HSUB.out j hlt _ hb.1).1))
    clear ht3 ho2 ho3 hl1 hl2 q2
    go_wp2
    go_roundw
    case rel=>exact ⟨j+1,q+3+ts[j].labels.length+cntVas ts[j].args,by omega,by go_num,rfl,Lib.hid (by have:=hc1.out;have:=hc4.out;have:=hq.out;omega),hM3.out,hO3.out⟩
    case measure=>simp [intOf];omega
   ·have hje:j=ts.length:=by omega
    subst hje
    rw [List.take_length] at hq
    have hqe:=hq.out
    have HQ:=Lib.hid hqe
    clear hqe
    have HMk:=Lib.hid hM
    clear hM
    go_wp2
    go_ret
    exact ⟨by rw [HQ.out];rfl,HMk.out.done HM.out hSa HSUB.out HDIS.out,ho⟩
end
section
open Go.RowKit
theorem markVMany_any (t:Va):MarkVMany t.args:=by
 induction t using Va.ind with
 | h k n nm ls ts ih=>exact markValueS_of ts ih
def MarkedVa (w:World) (S:Nat→Prop) (v:Value) (k:Nat) (t:Va) (e:Ending) (w':World):Prop:=
 e=.returned (.int .i64 ((k+cntVa t:Nat):Int))∧VaIn w' S v (markVa t k)∧OnlyIn S w w'
set_option maxHeartbeats 1000000 in
theorem markValue_any (t:Va) (S:Nat→Prop) (v:Value) (k:Nat) (w:World) (hv:VaIn w S v t) (h0:0<k) (h1:k+cntVa t≤2 ^ 62) (hS:∀ b,S b→b<w.heap.size):
  Calls Tryz.prog 44 #[v,.int .i64 k] w (MarkedVa w S v k t):=by
 have hc:=Lib.hid (cntVa_eq t)
 have hq1:k+t.labels.length+cntVas t.args≤2 ^ 62:=by have:=hc.out;omega
 obtain ⟨L,lc,A,ac,gl,rfl,hnm,hn,hz,hl,ha⟩:=hv.open
 obtain ⟨hb0,p0,hs0⟩:=boxes1 w 41 #[.int .i64 t.kind,.int .i64 t.num,.string t.name,.slice L t.labels.length lc,.slice A t.args.length ac]
 have hk0:∀ b,b<w.heap.size→(w.alloc (.cells #[.int .i64 t.kind,.int .i64 t.num,.string t.name,.slice L t.labels.length lc,.slice A t.args.length ac] 41)).heap[b]?=w.heap[b]?:=fun b hb=>hb0.block b hb
 have HS:=Lib.hid hS
 have HL:=Lib.hid hl
 have HA:=Lib.hid ha
 clear hz hl ha hv hS
 go_enter Tryz.func44,Tryz.ntmps44
 go_wp2_with fail
 generalize w.alloc (.cells #[.int .i64 t.kind,.int .i64 t.num,.string t.name,.slice L t.labels.length lc,.slice A t.args.length ac] 41)=w0 at *
 have HZ:=Lib.hid hs0
 have HK:=Lib.hid hk0
 clear hs0 hk0
 refine (markLabels L lc k gl t.labels w0 (HL.out.imp id fun ⟨h1,h2,h3⟩=>⟨h1,h3.same (HK.out gl h3.lt)⟩) h0 (by omega)).mono ?_
 rintro e w1 ⟨rfl,hl1,ho1⟩
 have hs1:=ho1.size
 have hgl:¬ (w.heap.size=gl∧t.labels≠[]):=fun ⟨h1,h2⟩=>by
  rcases HL.out with h | ⟨_,h,h'⟩
  ·exact h2 h
  ·have:=HS.out gl h
   omega
 have p1:Whole1 w1 w.heap.size 41 #[.int .i64 t.kind,.int .i64 t.num,.string t.name,.slice L t.labels.length lc,.slice A t.args.length ac]:=(ho1.block _ p0.lt hgl).trans p0
 have c1:w1.cell? ⟨w.heap.size,4,none⟩=some (.slice A t.args.length ac):=p1.cell 4
 have ha1:=Lib.hid ((HA.out.keep (fun b _ hb=>HK.out b hb)).keep (fun b hb hlt=>ho1.block b hlt fun h=>hb.2 h.1))
 clear p0 p1
 go_wp2_with fail
 refine (markVMany_any t _ A ac (k+t.labels.length) w1 ha1.out (by omega) (by omega)).mono ?_
 rintro e w2 ⟨rfl,ht2,ho2⟩
 have HT:=Lib.hid ht2
 have hfin:Hid (VaIn w2 S (.agg #[.int .i64 t.kind,.int .i64 t.num,.string t.name,.slice L t.labels.length lc,.slice A t.args.length ac]) (markVa t k)):=Lib.hid (markVIn k hnm hn (by omega) (by
   rcases hl1 with h | h
   ·exact .inl h
   ·rcases HL.out with h5 | ⟨h5,h6,_⟩
    ·exact .inl h5
    ·exact .inr ⟨h5,h6,h.same (ho2.block gl h.lt fun h=>h.2 rfl)⟩) HT.out (fun b hb=>hb))
 have hO:OnlyIn S w w2:=(OnlyIn.of_below hb0).trans ((ho1.wide fun b hb=>by
  rcases HL.out with h5 | ⟨_,h6,_⟩
  ·exact absurd h5 hb.2
  ·rw [hb.1];exact h6).trans (ho2.wide fun b hb=>hb.1))
 clear ht2 hl1
 go_wp2
 go_ret
 exact ⟨by rw [hc.out,← Nat.add_assoc];rfl,hfin.out,hO⟩
def HeldVMany (ts:List Va):Prop:=∀ (A:Option Addr) (c k:Nat) (w:World),VasAt w w.heap.size A (markVas ts k)→0<k→k+cntVas ts≤2 ^ 62→Calls Tryz.prog 46 #[.slice A ts.length c,.int .i64 k] w (HeldTo w (k+cntVas ts))
theorem vmarked_elem {w:World} {B k:Nat} {A:Option Addr} {ts:List Va} (h:VasAt w B A (markVas ts k)) (i:Nat) (hi:i<ts.length):
  ∃ b off L lc A' ac,A=some ⟨b,off,none⟩∧b<B∧w.cell? ⟨b,off+i * 5,none⟩=some (.int .i64 ((k+cntVas (ts.take i):Nat):Int))∧w.cell? ⟨b,off+i * 5+1,none⟩=some (.int .i64 ((k+cntVas (ts.take i)+1:Nat):Int))∧w.cell? ⟨b,off+i * 5+2,none⟩=some (.string (markB (k+cntVas (ts.take i)+2)))∧w.cell? ⟨b,off+i * 5+3,none⟩=some (.slice L ts[i].labels.length lc)∧
   w.cell? ⟨b,off+i * 5+4,none⟩=some (.slice A' ts[i].args.length ac)∧StrsAt w B L (marks (k+cntVas (ts.take i)+3) ts[i].labels.length)∧VasAt w B A' (markVas ts[i].args (k+cntVas (ts.take i)+3+ts[i].labels.length)):=by
 have hl:=markVas_len ts k
 have hi':i<(markVas ts k).length:=by omega
 obtain ⟨b,off,L,lc,A',ac,h1,h2,h3,hN,hM,h4,h5,hat⟩:=h.elem i hi'
 obtain ⟨L2,lc2,A2,ac2,he,_,_,_,h6,h7⟩:=hat.open
 simp only [Value.agg.injEq,Array.mk.injEq,List.cons.injEq,Value.slice.injEq,and_true,true_and] at he
 obtain ⟨⟨rfl,rfl⟩,rfl,rfl⟩:=he
 have hg:=markVas_get ts k i hi
 rw [List.getElem?_eq_getElem hi'] at hg
 have hg':=Option.some.inj hg
 rw [hg'] at h3 hN hM h4 h5 h6 h7
 refine ⟨b,off,L,lc,A',ac,h1,h2,?_,?_,?_,?_,?_,?_,?_⟩
 ·revert h3;cases ts[i];rw [markVa];exact id
 ·revert hN;cases ts[i];rw [markVa];exact id
 ·revert hM;cases ts[i];rw [markVa];exact id
 ·revert h4;cases ts[i];rw [markVa];simp only [setHead,Va.labels,marks_len];exact id
 ·revert h5;cases ts[i];rw [markVa];simp only [setHead,Va.args,markVas_len];exact id
 ·revert h6;cases ts[i];rw [markVa];exact id
 ·revert h7;cases ts[i];rw [markVa];exact id
set_option maxHeartbeats 1000000 in
theorem heldValueS_of (ts:List Va) (hall:∀ i,(h:i<ts.length)→HeldVMany ts[i].args):HeldVMany ts:=by
 intro A c k w hA h0 h1
 have HALL:=Lib.hid hall
 clear hall
 have hm:=hA.1
 rw [markVas_len] at hm
 unfold maxLen at hm
 go_enter Tryz.func46,Tryz.ntmps46
 go_wp2
 go_loopw [1,5] (fun m i wr=>∃ j q:Nat,j≤ts.length∧i=.int .i64 j∧m=.int .i64 (q:Int)∧Hid (q=k+cntVas (ts.take j))∧Below w.heap.size w wr) (fun _ i _=>ts.length - (intOf i).toNat)
 case atStart=>exact ⟨0,k,Nat.zero_le _,rfl,rfl,Lib.hid (by simp [cntVas]),Below.refl _ _⟩
 case round=>
  obtain ⟨j,q,hj,rfl,rfl,hq,hb⟩:=hrel
  by_cases hlt:j<ts.length
  ·have hc1:=Lib.hid (cntVas_take ts j hlt)
   have hc2:=cntVas_le ts (j+1)
   have hc4:=Lib.hid (cntVa_eq ts[j])
   have hq1:q+3+ts[j].labels.length+cntVas ts[j].args≤2 ^ 62:=by have:=hc1.out;have:=hc4.out;have:=hq.out;omega
   obtain ⟨b,off,L,lc,A',ac,rfl,hbl,q0,qn,qm,q1,q2,hl,ha⟩:=vmarked_elem (hA.below hb) j hlt
   rw [← hq.out] at q0 qn qm hl ha
   rw [show ((q+1:Nat):Int)=(q:Int)+1 by omega] at qn
   have hbs:=hb.size
   have hbl':b<wr.heap.size:=by omega
   have hne:((q:Int) != (q:Int))=false:=by simp
   have hne1:((q:Int)+1 != (q:Int)+1)=false:=by simp
   have hne2:((markB (q+2)).toList != (markB (q+2)).toList)=false:=by simp
   have hne3:((markB (q+2)).toList == (markB (q+2)).toList)=true:=by simp
   have HMT:=Lib.hid (fun W=>(show Calls Tryz.prog 89 #[.int .i64 ((q:Int)+1+1)] W fun e w'=>e=.returned (.string (markB (q+2)))∧Below W.heap.size W w' by
    have:=markText_any (q+2) W (by omega) (by omega)
    rw [show ((q+2:Nat):Int)=(q:Int)+1+1 by omega] at this
    exact this))
   have HHL:=Lib.hid (fun (W:World) (hW:StrsAt W W.heap.size L (marks (q+3) ts[j].labels.length))=>(show Calls Tryz.prog 90 #[.slice L ts[j].labels.length lc,.int .i64 ((q:Int)+1+1+1)] W (HeldTo W (q+3+ts[j].labels.length)) by
    have:=heldLabels L lc (q+3) ts[j].labels.length W hW (by omega) (by omega)
    rw [show ((q+3:Nat):Int)=(q:Int)+1+1+1 by omega] at this
    exact this))
   generalize hmb:markB (q+2)=mb at *
   clear hmb
   go_wp2
   go_region_held3 (fun w'=>w'.cell? ⟨b,off+j * 5+2,none⟩=some (.string mb)∧Below wr.heap.size wr w') ((first | exact ⟨qm,(Below.refl _ _).drew⟩ | exact ⟨hk1,hk2⟩))
    (first | (go_at_call 89;refine (HMT.out _).mono ?_;rintro e w' ⟨rfl,hbm⟩;have hk2:=(Below.refl wr.heap.size wr).drew.trans hbm;have hk1:=(kC hk2 qm hbl')))
   have hsk:=hk2.size
   have q1':=kC hk2 q1 hbl'
   have hbk:=hb.trans (hk2.mono hbs)
   have hbl2:b<w'.heap.size:=by omega
   have q2k:=kC hk2 q2 hbl'
   have hl2:=(hl.more hbs).up' hk2
   have ha2:=(ha.more hbs).up hk2
   clear q0 qn qm q1 q2 hl ha hne hne1 hne2 hne3 hk1 hbm
   go_wp2_with fail
   refine (HHL.out _ hl2).mono ?_
   rintro e w1 ⟨rfl,hb1⟩
   have q2':=kC hb1 q2k hbl2
   have hb1':=hbk.trans (hb1.mono hbk.size)
   have HT:=Lib.hid (HALL.out j hlt A' ac (q+3+ts[j].labels.length) w1 (ha2.up hb1) (by omega) (by omega))
   have hnn:¬ ((q+3+ts[j].labels.length:Nat):Int)<0:=by omega
   clear q1' q2k hl2 ha2
   go_wp2_with fail
   refine HT.out.mono ?_
   rintro e w2 ⟨rfl,hb2⟩
   go_wp2
   go_roundw
   case rel=>exact ⟨j+1,q+3+ts[j].labels.length+cntVas ts[j].args,by omega,by go_num,rfl,Lib.hid (by have:=hc1.out;have:=hc4.out;have:=hq.out;omega),hb1'.trans (hb2.mono hb1'.size)⟩
   case measure=>simp [intOf];omega
  ·have hje:j=ts.length:=by omega
   subst hje
   rw [List.take_length] at hq
   go_wp2
   go_ret
   exact ⟨by rw [hq.out];rfl,hb⟩
theorem heldVMany_any (t:Va):HeldVMany t.args:=by
 induction t using Va.ind with
 | h k n nm ls ts ih=>exact heldValueS_of ts ih
set_option maxHeartbeats 1000000 in
theorem heldValue_any (t:Va) (v:Value) (k:Nat) (w:World) (hv:VaAt w w.heap.size v (markVa t k)) (h0:0<k) (h1:k+cntVa t≤2 ^ 62):
  Calls Tryz.prog 47 #[v,.int .i64 k] w (HeldTo w (k+cntVa t)):=by
 have hc:=Lib.hid (cntVa_eq t)
 have hq1:k+t.labels.length+cntVas t.args≤2 ^ 62:=by have:=hc.out;omega
 have hv':∃ L lc A ac,v=.agg #[.int .i64 t.kind,.int .i64 t.num,.string t.name,.slice L t.labels.length lc,.slice A t.args.length ac]∧StrsAt w w.heap.size L (marks k t.labels.length)∧VasAt w w.heap.size A (markVas t.args (k+t.labels.length)):=by
  obtain ⟨L,lc,A,ac,e,_,_,_,h3,h4⟩:=hv.open
  refine ⟨L,lc,A,ac,?_,?_,?_⟩
  ·rw [e];cases t;rw [markVa];simp only [Va.labels,Va.args,Va.kind,Va.num,Va.name,marks_len,markVas_len]
  ·revert h3;cases t;rw [markVa];exact id
  ·revert h4;cases t;rw [markVa];exact id
 obtain ⟨L,lc,A,ac,rfl,hl,ha⟩:=hv'
 obtain ⟨hb0,p0,hs0⟩:=boxes1 w 41 #[.int .i64 t.kind,.int .i64 t.num,.string t.name,.slice L t.labels.length lc,.slice A t.args.length ac]
 have HZ:=Lib.hid hs0
 clear hv hs0
 go_enter Tryz.func47,Tryz.ntmps47
 go_wp2_with fail
 generalize w.alloc (.cells #[.int .i64 t.kind,.int .i64 t.num,.string t.name,.slice L t.labels.length lc,.slice A t.args.length ac] 41)=w0 at *
 refine (heldLabels L lc k t.labels.length w0 (hl.up' hb0) h0 (by omega)).mono ?_
 rintro e w1 ⟨rfl,hb1⟩
 have p1:=p0.below hb1 p0.lt
 have c1:w1.cell? ⟨w.heap.size,4,none⟩=some (.slice A t.args.length ac):=p1.cell 4
 have hb1':=hb0.trans (hb1.mono hb0.size)
 clear p0 p1
 go_wp2_with fail
 refine (heldVMany_any t A ac (k+t.labels.length) w1 (ha.up hb1') (by omega) (by omega)).mono ?_
 rintro e w2 ⟨rfl,hb2⟩
 go_wp2
 go_ret
 exact ⟨by rw [hc.out,← Nat.add_assoc];rfl,hb1'.trans (hb2.mono hb1'.size)⟩
end
end Go.Proofs.YtfnblkcmcfofoaaGreatDoor
section
namespace Go.Proofs.YtfnblkcmcfofoaaGreatDoor
open Go.RowKit
mutual
def sizeTy:Ty→Nat | .mk _ _ ts=>1+sizeTys ts
def sizeTys:List Ty→Nat | []=>0 | t::r=>sizeTy t+sizeTys r
end
mutual
def depthTy:Ty→Nat | .mk _ _ ts=>depthTys ts+1
def depthTys:List Ty→Nat | []=>0 | t::r=>max (depthTy t) (depthTys r)
end
theorem sizeTy_eq (t:Ty):sizeTy t=1+sizeTys t.args:=by cases t;rw [sizeTy];rfl
theorem depthTy_eq (t:Ty):depthTy t=depthTys t.args+1:=by cases t;rw [depthTy];rfl
theorem sizeTys_append:∀ (a b:List Ty),sizeTys (a++b)=sizeTys a+sizeTys b
 | [],b=>by simp [sizeTys]
 | t::a,b=>by
  rw [List.cons_append,sizeTys,sizeTys,sizeTys_append a b]
  omega
theorem sizeTys_take (ts:List Ty) (k:Nat) (h:k<ts.length):sizeTys (ts.take (k+1))=sizeTys (ts.take k)+sizeTy ts[k]:=by
 rw [List.take_succ_eq_append_getElem h,sizeTys_append,sizeTys,sizeTys]
 omega
theorem sizeTys_le (ts:List Ty) (k:Nat):sizeTys (ts.take k)≤sizeTys ts:=by
 have h:=sizeTys_append (ts.take k) (ts.drop k)
 rw [List.take_append_drop] at h
 omega
theorem depthTys_append:∀ (a b:List Ty),depthTys (a++b)=max (depthTys a) (depthTys b)
 | [],b=>by simp [depthTys]
 | t::a,b=>by
  rw [List.cons_append,depthTys,depthTys,depthTys_append a b]
  omega
theorem depthTys_take (ts:List Ty) (k:Nat) (h:k<ts.length):depthTys (ts.take (k+1))=max (depthTys (ts.take k)) (depthTy ts[k]):=by
 rw [List.take_succ_eq_append_getElem h,depthTys_append,depthTys,depthTys]
 omega
mutual
theorem size_le_sz:∀ (t:Ty),sizeTy t≤szTy t+1
 | .mk _ ls ts=>by
  rw [sizeTy,szTy]
  have:=sizes_le_szs ts
  omega
theorem sizes_le_szs:∀ (ts:List Ty),sizeTys ts≤szTys ts
 | []=>Nat.le_refl _
 | t::r=>by
  rw [sizeTys,szTys]
  have:=size_le_sz t
  have:=sizes_le_szs r
  omega
end
mutual
theorem depth_le_size:∀ (t:Ty),depthTy t≤sizeTy t
 | .mk _ _ ts=>by
  rw [depthTy,sizeTy]
  have:=depths_le_sizes ts
  omega
theorem depths_le_sizes:∀ (ts:List Ty),depthTys ts≤sizeTys ts
 | []=>Nat.le_refl _
 | t::r=>by
  rw [depthTys,sizeTys]
  have:=depth_le_size t
  have:=depths_le_sizes r
  omega
end
end Go.Proofs.YtfnblkcmcfofoaaGreatDoor
namespace Go.Proofs.YtfnblkcmcfofoaaGreatDoor
open Go.RowKit
theorem l1Max_any (a b:Int) (w:World):Calls Tryz.prog 114 #[.int .i64 a,.int .i64 b] w fun e w'=>e=.returned (.int .i64 (max a b))∧w=w':=by
 by_cases h:b<a
 ·have e:max a b=a:=by omega
  rw [e]
  clear e
  go_enter Tryz.func114,Tryz.ntmps114
  go_wp2
  go_ret
  exact ⟨rfl,rfl⟩
 ·have e:max a b=b:=by omega
  rw [e]
  clear e
  go_enter Tryz.func114,Tryz.ntmps114
  go_wp2
  go_ret
  exact ⟨rfl,rfl⟩
def DepthOne (f:Nat) (t:Ty):Prop:=∀ (v:Value) (w:World),TyAt w w.heap.size v t→sizeTy t≤2000000→Calls Tryz.prog f #[v] w (IntBelow (depthTy t) w)
set_option maxHeartbeats 1000000 in
theorem specDepthOf_of (k0:Int) (ls:List ByteArray) (ts:List Ty) (hall:∀ i,(h:i<ts.length)→DepthOne 105 ts[i]):DepthOne 105 (.mk k0 ls ts):=by
 intro v w hv hsz
 have hse:=Lib.hid (depthTy_eq (.mk k0 ls ts))
 have hse2:sizeTys ts≤2000000:=by have:=sizeTy_eq (.mk k0 ls ts);simp only [Ty.args] at this;omega
 obtain ⟨L,lc,A,ac,rfl,_,_,_,ha⟩:=hv.open
 simp only [Ty.kind,Ty.labels,Ty.args] at *
 have hm:=ha.1
 unfold maxLen at hm
 have HALL:=Lib.hid hall
 clear hall hv
 obtain ⟨hb0,p0,hs0⟩:=boxes1 w 27 #[.int .i64 k0,.slice L ls.length lc,.slice A ts.length ac]
 have ha0:=ha.up hb0
 have HZ:=Lib.hid hs0
 clear ha hs0
 go_enter Tryz.func105,Tryz.ntmps105
 go_wp2
 generalize w.alloc (.cells #[.int .i64 k0,.slice L ls.length lc,.slice A ts.length ac] 27)=w0 at *
 have hpl:=p0.lt
 go_loopw [3,4] (fun n i wr=>∃ k d:Nat,k≤ts.length∧i=.int .i64 k∧n=.int .i64 (d:Int)∧Hid (d=depthTys (ts.take k))∧d≤2000000∧Below w0.heap.size w0 wr) (fun _ i _=>ts.length - (intOf i).toNat)
 case atStart=>exact ⟨0,0,Nat.zero_le _,rfl,rfl,Lib.hid (by simp [depthTys]),by omega,Below.refl _ _⟩
 case round=>
  obtain ⟨k,d,hk,rfl,rfl,hd,hdl,hb⟩:=hrel
  have p1:=p0.below hb hpl
  have c2:wr.cell? ⟨w.heap.size,2,none⟩=some (.slice A ts.length ac):=p1.cell 2
  by_cases hlt:k<ts.length
  ·obtain ⟨b,off,L1,lc1,A1,ac1,rfl,hbl,q0,q1,q2,_,_,_,_,ht⟩:=(ha0.below hb).elem k hlt
   have hst:=Lib.hid (depthTys_take ts k hlt)
   have hle:=sizeTys_le ts (k+1)
   have hst2:=Lib.hid (sizeTys_take ts k hlt)
   have hb3:sizeTy ts[k]≤2000000:=by have:=hst2.out;omega
   have hb4:=depth_le_size ts[k]
   have HT:=Lib.hid (HALL.out k hlt _ wr (ht.more hb.size) hb3)
   clear ht p1
   go_wp2_with fail
   refine HT.out.mono ?_
   rintro e w1 ⟨rfl,hb1⟩
   go_wp2_with fail
   refine (l1Max_any (d:Int) (depthTy ts[k]:Int) w1).mono ?_
   rintro e w2 ⟨rfl,rfl⟩
   rw [show max (d:Int) (depthTy ts[k]:Int)=((max d (depthTy ts[k]):Nat):Int) by omega]
   go_wp2
   go_roundw
   case rel=>exact ⟨k+1,max d (depthTy ts[k]),by omega,by go_num,rfl,Lib.hid (by rw [hst.out,hd.out]),by omega,hb.trans (hb1.mono hb.size)⟩
   case measure=>simp [intOf];omega
  ·have hke:k=ts.length:=by omega
   subst hke
   rw [List.take_length] at hd
   go_wp2
   go_ret
   exact ⟨by rw [hse.out,← hd.out];rfl,hb0.trans (hb.mono hb0.size)⟩
theorem specDepthOf_any (t:Ty):DepthOne 105 t:=by
 induction t using Ty.ind with
 | h k ls ts ih=>exact specDepthOf_of k ls ts ih
def LeftOne (f:Nat) (t:Ty):Prop:=∀ (v:Value) (left:Int) (w:World),TyAt w w.heap.size v t→0≤left→left≤1000000→Calls Tryz.prog f #[v,.int .i64 left] w (IntBelow (leftOf left (sizeTy t)) w)
theorem leftOf_step (left:Int) (a b:Nat) (h:0≤leftOf left a):leftOf (leftOf left a) b=leftOf left (a+b):=by
 unfold leftOf at *
 by_cases h1:left - (a:Int)<0
 ·rw [if_pos h1] at h
  omega
 ·rw [if_neg h1] at h ⊢
  by_cases h2:left - (a:Int) - (b:Int)<0
  ·rw [if_pos h2,if_pos (by omega)]
  ·rw [if_neg h2,if_neg (by omega)]
   omega
theorem leftOf_neg (left:Int) (a b:Nat) (h:leftOf left a=-1) (hab:a≤b):leftOf left b=-1:=by
 unfold leftOf at *
 by_cases h1:left - (a:Int)<0
 ·rw [if_pos (by omega)]
 ·rw [if_neg h1] at h
  omega
theorem leftOf_le (left:Int) (a:Nat) (h:0≤left):leftOf left a≤left:=by
 unfold leftOf
 split<;>omega
set_option maxHeartbeats 1000000 in
theorem specLeft_of (k0:Int) (ls:List ByteArray) (ts:List Ty) (hall:∀ i,(h:i<ts.length)→LeftOne 104 ts[i]):LeftOne 104 (.mk k0 ls ts):=by
 intro v left w hv h0 h1
 have hse:=Lib.hid (sizeTy_eq (.mk k0 ls ts))
 obtain ⟨L,lc,A,ac,rfl,_,_,_,ha⟩:=hv.open
 simp only [Ty.kind,Ty.labels,Ty.args] at *
 have hm:=ha.1
 unfold maxLen at hm
 have HALL:=Lib.hid hall
 clear hall hv
 obtain ⟨hb0,p0,hs0⟩:=boxes1 w 27 #[.int .i64 k0,.slice L ls.length lc,.slice A ts.length ac]
 have ha0:=ha.up hb0
 have HZ:=Lib.hid hs0
 clear ha hs0
 go_enter Tryz.func104,Tryz.ntmps104
 go_wp2
 generalize w.alloc (.cells #[.int .i64 k0,.slice L ls.length lc,.slice A ts.length ac] 27)=w0 at *
 have hpl:=p0.lt
 go_loopw [1,5] (fun n i wr=>∃ (k:Nat) (x:Int),k≤ts.length∧i=.int .i64 k∧n=.int .i64 x∧Hid (x=leftOf left (1+sizeTys (ts.take k)))∧x≤1000000∧-1≤x∧Below w0.heap.size w0 wr) (fun _ i _=>ts.length - (intOf i).toNat)
 case atStart=>exact ⟨0,left - 1,Nat.zero_le _,rfl,rfl,Lib.hid (by simp only [List.take_zero,sizeTys,leftOf];split<;>omega),by omega,by omega,Below.refl _ _⟩
 case round=>
  obtain ⟨k,x,hk,rfl,rfl,hx,hxl,hxm,hb⟩:=hrel
  have p1:=p0.below hb hpl
  have c2:wr.cell? ⟨w.heap.size,2,none⟩=some (.slice A ts.length ac):=p1.cell 2
  by_cases hlt:k<ts.length
  ·by_cases hx0:0≤x
   ·obtain ⟨b,off,L1,lc1,A1,ac1,rfl,hbl,q0,q1,q2,_,_,_,_,ht⟩:=(ha0.below hb).elem k hlt
    have hst2:=Lib.hid (sizeTys_take ts k hlt)
    have hdx:decide ((0:Int)≤x)=true:=by simp;omega
    have hlk:decide ((k:Int)<(ts.length:Int))=true:=by simp;omega
    have HT:=Lib.hid (HALL.out k hlt _ x wr (ht.more hb.size) hx0 hxl)
    have hle:=leftOf_le x (sizeTy ts[k]) hx0
    have hcs:=leftOf_cases x (sizeTy ts[k])
    have hnx:Hid (leftOf x (sizeTy ts[k])=leftOf left (1+sizeTys (ts.take (k+1)))):=Lib.hid (by
     have hxe:=hx.out
     rw [hst2.out,hxe,leftOf_step _ _ _ (by rw [← hxe];exact hx0),Nat.add_assoc])
    clear ht p1
    go_wp2_with fail
    refine HT.out.mono ?_
    rintro e w1 ⟨rfl,hb1⟩
    generalize leftOf x (sizeTy ts[k])=y at *
    go_wp2
    go_roundw
    case rel=>exact ⟨k+1,y,by omega,by go_num,rfl,hnx,by omega,by omega,hb.trans (hb1.mono hb.size)⟩
    case measure=>simp [intOf];omega
   ·have hxe:x=-1:=by omega
    have hr:=Lib.hid (show leftOf left (sizeTy (.mk k0 ls ts))=-1 by
     rw [hse.out]
     have:=hx.out
     exact leftOf_neg _ _ _ (by rw [← this];exact hxe) (by have:=sizeTys_le ts k;omega))
    subst hxe
    clear hx0
    go_wp2
    go_ret
    exact ⟨by rw [hr.out];rfl,hb0.trans (hb.mono hb0.size)⟩
  ·have hke:k=ts.length:=by omega
   subst hke
   rw [List.take_length] at hx
   go_wp2
   go_ret
   exact ⟨by rw [hse.out,← hx.out];rfl,hb0.trans (hb.mono hb0.size)⟩
theorem specLeft_any (t:Ty):LeftOne 104 t:=by
 induction t using Ty.ind with
 | h k ls ts ih=>exact specLeft_of k ls ts ih
end Go.Proofs.YtfnblkcmcfofoaaGreatDoor
end
