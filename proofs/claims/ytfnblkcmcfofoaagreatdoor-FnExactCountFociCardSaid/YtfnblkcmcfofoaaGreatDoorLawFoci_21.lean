/- Lemmas: FociK, VaR, ShelfV. -/
import Derived.Test.YtfnblkcmcfofoaaGreatDoorLawFoci_20
import Derived.Test.YtfnblkcmcfofoaaGreatDoorLawFoci_13
import Derived.Shelf.SlicesQ.Reverse
import Derived.Shelf.Spec.SlicesGrow
import Derived.Test.YtfnblkcmcfofoaaGreatDoorProg

namespace Go.Proofs.YtfnblkcmcfofoaaGreatDoor
section
set_option maxRecDepth 100000
open Go.RowKit
structure Fit (o:Ot) (s t:Ty) (kd:Int) (v:Va):Prop where
 form:formOt o=true
 valid:validB s=true
 ty:typeO o s=some (t,kd)
 fit:fits v s=true
 sz:szVa v+6 * sizeOt o * lfVa v≤1048574
theorem Fit.leaf {k n:Int} {nm:ByteArray} {ts:List Ot} {s t:Ty} {kd:Int} {v:Va} (h:Fit (.mk k n nm ts) s t kd v) (hk:k≠11∧k≠12∧k≠13):leafO k nm s=some (t,kd):=by
 have h1:=h.ty
 rw [typeO] at h1
 have h2:=(goodO_valid h1).1
 simpa [nodeTyO,hk.1,hk.2.1,hk.2.2] using h2
theorem Fit.szv {o:Ot} {s t:Ty} {kd:Int} {v:Va} (h:Fit o s t kd v):szVa v≤1048574:=by have:=h.sz;omega
theorem Fit.szf {o:Ot} {s t:Ty} {kd:Int} {v:Va} (h:Fit o s t kd v):szVas (fociO o v)≤1048575∧(fociO o v).length≤1048575:=by
 have h1:=(foci_sz o h.form v).2
 have h2:=h.sz
 have h3:=szVas_len (fociO o v)
 omega
theorem Fit.field {n:Int} {nm:ByteArray} {ts:List Ot} {s t:Ty} {kd:Int} {v:Va} (h:Fit (.mk 2 n nm ts) s t kd v):
  ∃ i,∃ hi:i<v.args.length,idxOf v.labels nm=(i:Int)∧fociO (.mk 2 n nm ts) v=[v.args[i]]:=by
 have hl:=h.leaf (by decide)
 obtain ⟨sk,sl,sa⟩:=s
 have hn:=node_of h.valid
 rw [leafO,if_neg (by decide),if_pos rfl] at hl
 obtain ⟨hk',hp,rfl⟩:=ite_map hl
 obtain rfl:sk=3:=hk'
 obtain ⟨_,hls,hlen,hfit⟩:=fits_rec h.fit hn
 unfold partB at hp
 split at hp
 ·rename_i hc
  simp only [Ty.labels,Ty.args] at hp hc
  obtain ⟨hi,rfl⟩:=List.getElem?_eq_some_iff.1 hp
  have hi':(idxOf sl nm).toNat<v.args.length:=by omega
  refine ⟨(idxOf sl nm).toNat,hi',by rw [hls];omega,?_⟩
  rw [fociO_eq]
  simp [nodeF,hls,List.getElem?_eq_getElem hi']
 ·cases hp
theorem Fit.at_ {n:Int} {nm:ByteArray} {ts:List Ot} {s t:Ty} {kd:Int} {v:Va} (h:Fit (.mk 6 n nm ts) s t kd v):0≤n:=by
 have h1:=h.form
 simp only [formOt,nodeOB,Bool.and_eq_true] at h1
 have h2:=h1.2.2
 unfold numOB at h2
 simp at h2
 omega
theorem Fit.not_ {n:Int} {nm:ByteArray} {ts:List Ot} {s t:Ty} {kd:Int} {v:Va} (h:Fit (.mk 8 n nm ts) s t kd v):v.num=0∨v.num=1:=by
 have hl:=h.leaf (by decide)
 obtain ⟨sk,sl,sa⟩:=s
 rw [leafO,if_neg (by decide),if_neg (by decide),if_neg (by decide),if_neg (by decide),if_neg (by decide),if_neg (by decide),if_neg (by decide),if_pos rfl] at hl
 obtain ⟨hk',_,_⟩:=ite_some hl
 obtain rfl:sk=2:=hk'
 have hf:=h.fit
 cases v with
 | mk k n2 nm2 ls vs=>
  simp only [fits,Bool.and_eq_true] at hf
  have hh:=hf.2
  rw [hasB,show Ty.kind (.mk 2 sl sa)=2 from rfl,if_neg (by decide),if_pos rfl] at hh
  have hk3:k=2:=by simpa using hh
  subst hk3
  have hf1:=hf.1
  rw [formVa,Bool.and_eq_true] at hf1
  have hnv:=hf1.2
  unfold nodeVB at hnv
  rw [if_neg (by decide),if_pos rfl] at hnv
  simp only [Bool.and_eq_true,decide_eq_true_eq] at hnv
  simp only [Va.num]
  omega
theorem Fit.name {n:Int} {nm:ByteArray} {ts:List Ot} {s t:Ty} {kd:Int} {v:Va} (h:Fit (.mk 10 n nm ts) s t kd v):nm.size≤4:=name_four h.form rfl
theorem Fit.then_ {n:Int} {nm:ByteArray} {a b:Ot} {s t:Ty} {kd:Int} {v:Va} (h:Fit (.mk 12 n nm [a,b]) s t kd v):
  ∃ ta ka kb,Fit a s ta ka v∧(∀ x ∈ fociO a v,Fit b ta t kb x)∧fociO (.mk 12 n nm [a,b]) v=(fociO a v).flatMap (fociO b):=by
 have hty:=h.ty
 rw [typeO] at hty
 have hgo:=(goodO_valid hty).1
 obtain ⟨a',b',e,fa,fb⟩:=form_two h.form (.inl rfl)
 simp only [List.cons.injEq,and_true] at e
 obtain ⟨rfl,rfl⟩:=e
 have hsz:=h.sz
 have hse:=sizeOt_eq (.mk 12 n nm [a,b])
 simp only [Ot.args,sizeOts] at hse
 simp only [nodeTyO,if_true,typeOs,thenO] at hgo
 cases hta:typeO a s with
 | none=>simp [hta] at hgo
 | some p=>
  obtain ⟨ta,ka⟩:=p
  simp only [hta] at hgo
  cases htb:typeO b ta with
  | none=>simp [htb] at hgo
  | some q=>
   obtain ⟨tb,kb⟩:=q
   simp only [htb,Option.some.injEq,Prod.mk.injEq] at hgo
   obtain ⟨rfl,rfl⟩:=hgo
   have h6:6 * sizeOt a * lfVa v+6 * sizeOt b * lfVa v≤6 * sizeOt (.mk 12 n nm [a,b]) * lfVa v:=by
    rw [← Nat.add_mul]
    exact Nat.mul_le_mul_right _ (by omega)
   have hfa:Fit a s ta ka v:=⟨fa,h.valid,hta,h.fit,by omega⟩
   have h1:=foci_fit a fa s ta ka v h.valid hta h.fit
   have h2:=foci_sz a fa v
   refine ⟨ta,ka,kb,hfa,fun x hx=>⟨fb,typeO_valid hta,htb,h1.1 x hx,?_⟩,by rw [fociO_eq];simp [nodeF,fociOs]⟩
   have h3:=lf_mem _ x hx
   have h4:6 * sizeOt b * lfVa x≤6 * sizeOt b * lfVa v:=Nat.mul_le_mul_left _ (by omega)
   omega
theorem Fit.else_ {n:Int} {nm:ByteArray} {a b:Ot} {s t:Ty} {kd:Int} {v:Va} (h:Fit (.mk 13 n nm [a,b]) s t kd v):
  ∃ ta ka tb kb,Fit a s ta ka v∧Fit b s tb kb v∧fociO (.mk 13 n nm [a,b]) v=if (fociO a v).length=0 then fociO b v else fociO a v:=by
 have hty:=h.ty
 rw [typeO] at hty
 have hgo:=(goodO_valid hty).1
 obtain ⟨a',b',e,fa,fb⟩:=form_two h.form (.inr rfl)
 simp only [List.cons.injEq,and_true] at e
 obtain ⟨rfl,rfl⟩:=e
 have hsz:=h.sz
 have hse:=sizeOt_eq (.mk 13 n nm [a,b])
 simp only [Ot.args,sizeOts] at hse
 have h6:6 * sizeOt a * lfVa v≤6 * sizeOt (.mk 13 n nm [a,b]) * lfVa v:=Nat.mul_le_mul_right _ (by omega)
 have h7:6 * sizeOt b * lfVa v≤6 * sizeOt (.mk 13 n nm [a,b]) * lfVa v:=Nat.mul_le_mul_right _ (by omega)
 simp only [nodeTyO,typeOs,elseO] at hgo
 simp only [show ((13:Int)=12)=False from by simp,if_false,if_true] at hgo
 cases hta:typeO a s with
 | none=>simp [hta] at hgo
 | some p=>
  obtain ⟨ta,ka⟩:=p
  simp only [hta] at hgo
  cases htb:typeO b s with
  | none=>simp [htb] at hgo
  | some q=>
   obtain ⟨tb,kb⟩:=q
   exact ⟨ta,ka,tb,kb,⟨fa,h.valid,hta,h.fit,by omega⟩,⟨fb,h.valid,htb,h.fit,by omega⟩,by rw [fociO_eq];simp [nodeF,fociOs]⟩
theorem Fit.map_ {n:Int} {nm:ByteArray} {a:Ot} {s t:Ty} {kd:Int} {v:Va} (h:Fit (.mk 11 n nm [a]) s t kd v):
  ∃ e ta,(∀ x ∈ v.args,Fit a e ta 1 x)∧fociO (.mk 11 n nm [a]) v=[listVa (v.args.flatMap (fociO a))]:=by
 have hty:=h.ty
 rw [typeO] at hty
 have hgo:=(goodO_valid hty).1
 obtain ⟨a',e,fa⟩:=form_one h.form rfl
 simp only [List.cons.injEq,and_true] at e
 obtain rfl:=e
 have hsz:=h.sz
 have hse:=sizeOt_eq (.mk 11 n nm [a])
 simp only [Ot.args,sizeOts] at hse
 simp only [nodeTyO,typeOs] at hgo
 simp only [show ((11:Int)=12)=False from by simp,show ((11:Int)=13)=False from by simp,if_false,if_true] at hgo
 unfold mapO at hgo
 have hval:=h.valid
 have hfit:=h.fit
 obtain ⟨sk,sl,sa⟩:=s
 split at hgo
 ·rename_i hk
  obtain rfl:sk=5:=hk
  obtain ⟨e,rfl⟩:=list_one hval
  simp only [Ty.args,List.getElem?_cons_zero] at hgo
  cases hta:typeO a e with
  | none=>simp [hta] at hgo
  | some p=>
   obtain ⟨ta,ka⟩:=p
   simp only [hta] at hgo
   split at hgo
   ·rename_i hka
    subst hka
    refine ⟨e,ta,fun x hx=>⟨fa,valid_elem0 hval,hta,(fits_list hfit).2 x hx,?_⟩,by rw [fociO_eq];simp [nodeF,fociOs]⟩
    have h3:=lf_mem _ x hx
    have h4:=lfVa_args v
    have h5:=szVa_eq v
    have h6:6 * sizeOt a * lfVa x≤6 * sizeOt (.mk 11 n nm [a]) * lfVa v:=Nat.mul_le_mul (by omega) (by omega)
    omega
   ·cases hgo
 ·cases hgo
theorem node_szV {k n:Int} {nm:ByteArray} {ls:List ByteArray} {m:Nat} (h:nodeVB k n nm ls m=true):nm.size+(ls.length+sumSizes ls)≤20:=by
 unfold nodeVB at h
 split at h
 ·simp only [Bool.and_eq_true,decide_eq_true_eq] at h
  have e:ls=[]:=List.length_eq_zero_iff.1 h.1.2
  subst e
  simp [sumSizes,h.1.1]
 split at h
 ·simp only [Bool.and_eq_true,decide_eq_true_eq] at h
  have e:ls=[]:=List.length_eq_zero_iff.1 h.1.1.2
  subst e
  simp [sumSizes,h.1.1.1]
 split at h
 ·simp only [Bool.and_eq_true,decide_eq_true_eq] at h
  have hl:=h.2
  unfold labelsB at hl
  simp only [Bool.and_eq_true,decide_eq_true_eq] at hl
  have h1:=sumSizes_names ls hl.1.1
  omega
 split at h
 ·simp only [Bool.and_eq_true,decide_eq_true_eq] at h
  have e:ls=[]:=List.length_eq_zero_iff.1 h.1.1.2
  subst e
  have h1:=sumSizes_names [nm] (by simp [h.1.1.1])
  simp [sumSizes] at h1 ⊢
  omega
 split at h
 ·simp only [Bool.and_eq_true,decide_eq_true_eq] at h
  have e:ls=[]:=List.length_eq_zero_iff.1 h.1.2
  subst e
  simp [sumSizes,h.1.1]
 ·cases h
mutual
theorem form_szV:∀ (v:Va),formVa v=true→szVa v+1≤21 * sizeVa v
 | .mk k n nm ls ts,h=>by
  rw [formVa,Bool.and_eq_true] at h
  have h1:=node_szV h.2
  have h2:=form_szVs ts h.1
  rw [szVa,sizeVa]
  omega
theorem form_szVs:∀ (ts:List Va),formVas ts=true→szVas ts≤21 * sizeVas ts
 | [],_=>by rw [szVas,sizeVas];exact Nat.le_refl _
 | t::r,h=>by
  rw [formVas,Bool.and_eq_true] at h
  have h1:=form_szV t h.1
  have h2:=form_szVs r h.2
  rw [szVas,sizeVas]
  omega
end
noncomputable def fociB (s:Ty) (o:Ot) (v:Va):Option (List Va):=if (opticTypeB s o).isSome=true∧hasTypeB v s=true then some (fociO o v) else none
theorem fit_top {s:Ty} {o:Ot} {v:Va} (h1:(opticTypeB s o).isSome=true) (h2:hasTypeB v s=true):∃ t kd,Fit o s t kd v:=by
 unfold opticTypeB at h1
 split at h1
 ·rename_i hc
  simp only [Bool.and_eq_true] at hc
  obtain ⟨p,hp⟩:=Option.isSome_iff_exists.1 h1
  obtain ⟨t,kd⟩:=p
  obtain ⟨hv,_,_⟩:=hasTypeB_parts h2
  have ho:=hc.2
  unfold opticB at ho
  simp only [Bool.and_eq_true,decide_eq_true_eq] at ho
  have hf:=fits_has h2
  refine ⟨t,kd,ho.2,hc.1,hp,hf,?_⟩
  unfold valueB at hv
  simp only [Bool.and_eq_true,decide_eq_true_eq] at hv
  have h3:=form_szV v hv.2
  have h4:=lfVa_le v
  have h5:6 * sizeOt o * lfVa v≤120 * 300:=Nat.mul_le_mul (by omega) (by omega)
  omega
 ·cases h1
theorem fociB_some {s:Ty} {o:Ot} {v:Va} (h1:(opticTypeB s o).isSome=true) (h2:hasTypeB v s=true):fociB s o v=some (fociO o v):=by simp [fociB,h1,h2]
theorem fociB_off {s:Ty} {o:Ot} {v:Va} (h1:(opticTypeB s o).isSome=false):fociB s o v=none:=by simp [fociB,h1]
theorem fociB_no {s:Ty} {o:Ot} {v:Va} (h2:hasTypeB v s=false):fociB s o v=none:=by simp [fociB,h2]
theorem fociB_len {s:Ty} {o:Ot} {v:Va} {l:List Va} (h:fociB s o v=some l):szVas l≤1048575∧l.length≤1048575:=by
 unfold fociB at h
 split at h
 ·rename_i hc
  obtain ⟨t,kd,hf⟩:=fit_top hc.1 hc.2
  cases h
  exact hf.szf
 ·cases h
end
section
set_option maxRecDepth 100000
open Go.RowKit
def StrsR (w:World) (S:Nat→Prop) (L:Option Addr) (ls:List ByteArray):Prop:=∀ i,(h:i<ls.length)→∃ b off,L=some ⟨b,off,none⟩∧S b∧b<w.heap.size∧w.cell? ⟨b,off+i,none⟩=some (.string ls[i])
def ElemsR (w:World) (S:Nat→Prop) (A:Option Addr) (m:Nat) (vs:Nat→Value):Prop:=∀ i,i<m→∃ b off,A=some ⟨b,off,none⟩∧S b∧b<w.heap.size∧∀ j,j<5→w.cell? ⟨b,off+i * 5+j,none⟩=partAt (vs i) j
theorem StrsR.keep {w w':World} {S:Nat→Prop} {L:Option Addr} {ls:List ByteArray} (h:StrsR w S L ls) (hk:∀ b,S b→b<w.heap.size→w'.heap[b]?=w.heap[b]?) (hs:w.heap.size≤w'.heap.size):StrsR w' S L ls:=fun i hi=>by
 obtain ⟨b,off,h1,h2,h3,h4⟩:=h i hi
 exact ⟨b,off,h1,h2,Nat.lt_of_lt_of_le h3 hs,(World.cell?_of_block (a:=⟨b,off+i,none⟩) (hk b h2 h3)).trans h4⟩
theorem ElemsR.keep {w w':World} {S:Nat→Prop} {A:Option Addr} {m:Nat} {vs:Nat→Value} (h:ElemsR w S A m vs) (hk:∀ b,S b→b<w.heap.size→w'.heap[b]?=w.heap[b]?) (hs:w.heap.size≤w'.heap.size):ElemsR w' S A m vs:=fun i hi=>by
 obtain ⟨b,off,h1,h2,h3,h4⟩:=h i hi
 exact ⟨b,off,h1,h2,Nat.lt_of_lt_of_le h3 hs,fun j hj=>(World.cell?_of_block (a:=⟨b,off+i * 5+j,none⟩) (hk b h2 h3)).trans (h4 j hj)⟩
inductive VaR (w:World) (S:Nat→Prop):Value→Va→Prop where
 | mk {k n:Int} {nm:ByteArray} {ls:List ByteArray} {ts:List Va} {L A:Option Addr} {lc ac:Nat} (vs:Nat→Value) (hnm:nm.size≤maxLen) (hn:ls.length≤maxLen) (hz:∀ i,(h:i<ls.length)→ls[i].size≤maxLen) (hm:ts.length≤maxLen) (hls:StrsR w S L ls) (hes:ElemsR w S A ts.length vs)
   (hks:∀ i,(hi:i<ts.length)→VaR w S (vs i) ts[i]):VaR w S (.agg #[.int .i64 k,.int .i64 n,.string nm,.slice L ls.length lc,.slice A ts.length ac]) (.mk k n nm ls ts)
theorem VaR.keep {w w':World} {S:Nat→Prop} {v:Value} {t:Va} (h:VaR w S v t) (hk:∀ b,S b→b<w.heap.size→w'.heap[b]?=w.heap[b]?) (hs:w.heap.size≤w'.heap.size):VaR w' S v t:=by
 induction h with
 | mk vs hnm hn hz hm hls hes _ ih=>exact .mk vs hnm hn hz hm (hls.keep hk hs) (hes.keep hk hs) ih
theorem VaR.wide {w:World} {S S':Nat→Prop} {v:Value} {t:Va} (h:VaR w S v t) (hS:∀ b,S b→b<w.heap.size→S' b):VaR w S' v t:=by
 induction h with
 | mk vs hnm hn hz hm hls hes _ ih=>
  exact .mk vs hnm hn hz hm (fun i hi=>by obtain ⟨b,off,h1,h2,h3,h4⟩:=hls i hi;exact ⟨b,off,h1,hS b h2 h3,h3,h4⟩) (fun i hi=>by obtain ⟨b,off,h1,h2,h3,h4⟩:=hes i hi;exact ⟨b,off,h1,hS b h2 h3,h3,h4⟩) ih
theorem VaR.up {w w':World} {S:Nat→Prop} {v:Value} {t:Va} (h:VaR w S v t) (hb:Below w.heap.size w w'):VaR w' S v t:=h.keep (fun b _ hl=>hb.block b hl) hb.size
theorem VaR.here {w:World} {S:Nat→Prop} {v:Value} {t:Va} (h:VaR w S v t):VaAt w w.heap.size v t:=by
 induction h with
 | mk vs hnm hn hz hm hls hes _ ih=>
  exact .mk vs hnm hn hz hm (fun i hi=>by obtain ⟨b,off,h1,_,h3,h4⟩:=hls i hi;exact ⟨b,off,h1,h3,h4⟩) (fun i hi=>by obtain ⟨b,off,h1,_,h3,h4⟩:=hes i hi;exact ⟨b,off,h1,h3,h4⟩) ih
theorem VaR.of_at {w:World} {B:Nat} {v:Value} {t:Va} (h:VaAt w B v t) (hB:B≤w.heap.size):VaR w (fun b=>b<B) v t:=by
 induction h with
 | mk vs hnm hn hz hm hls hes _ ih=>
  exact .mk vs hnm hn hz hm (fun i hi=>by obtain ⟨b,off,h1,h3,h4⟩:=hls i hi;exact ⟨b,off,h1,h3,Nat.lt_of_lt_of_le h3 hB,h4⟩) (fun i hi=>by obtain ⟨b,off,h1,h3,h4⟩:=hes i hi;exact ⟨b,off,h1,h3,Nat.lt_of_lt_of_le h3 hB,h4⟩) ih
theorem VaR.of_in {w:World} {S:Nat→Prop} {v:Value} {t:Va} (h:VaIn w S v t):VaR w S v t:=by
 induction h with
 | @mk S k n nm ls ts L A lc ac gl ga vs Ss hnm hn hz hm hls hes hne hsub hdis _ ih=>
  refine .mk vs hnm hn hz hm (fun i hi=>?_) (fun i hi=>?_) fun i hi=>(ih i hi).wide fun b hb _=>(hsub i hi b hb).1
  ·rcases hls with rfl | ⟨rfl,h2,h3⟩
   ·exact absurd hi (by simp)
   ·exact ⟨gl,0,rfl,h2,h3.lt,by rw [Nat.zero_add];exact h3.cell i hi⟩
  ·rcases hes with rfl | ⟨rfl,h2,h3⟩
   ·exact absurd hi (by simp)
   ·exact ⟨ga,0,rfl,h2,h3.lt,fun j hj=>by rw [Nat.zero_add];exact h3.cell i j hi hj⟩
def VasR (w:World) (S:Nat→Prop) (A:Option Addr) (ts:List Va):Prop:=ts.length≤maxLen∧∃ vs:Nat→Value,ElemsR w S A ts.length vs∧∀ i,(hi:i<ts.length)→VaR w S (vs i) ts[i]
theorem VasR.keep {w w':World} {S:Nat→Prop} {A:Option Addr} {ts:List Va} (h:VasR w S A ts) (hk:∀ b,S b→b<w.heap.size→w'.heap[b]?=w.heap[b]?) (hs:w.heap.size≤w'.heap.size):VasR w' S A ts:=by
 obtain ⟨h0,vs,h1,h2⟩:=h
 exact ⟨h0,vs,h1.keep hk hs,fun i hi=>(h2 i hi).keep hk hs⟩
theorem VasR.up {w w':World} {S:Nat→Prop} {A:Option Addr} {ts:List Va} (h:VasR w S A ts) (hb:Below w.heap.size w w'):VasR w' S A ts:=h.keep (fun b _ hl=>hb.block b hl) hb.size
theorem VasR.wide {w:World} {S S':Nat→Prop} {A:Option Addr} {ts:List Va} (h:VasR w S A ts) (hS:∀ b,S b→b<w.heap.size→S' b):VasR w S' A ts:=by
 obtain ⟨h0,vs,h1,h2⟩:=h
 exact ⟨h0,vs,fun i hi=>by obtain ⟨b,off,h1,h2,h3,h4⟩:=h1 i hi;exact ⟨b,off,h1,hS b h2 h3,h3,h4⟩,fun i hi=>(h2 i hi).wide hS⟩
theorem VasR.here {w:World} {S:Nat→Prop} {A:Option Addr} {ts:List Va} (h:VasR w S A ts):VasAt w w.heap.size A ts:=by
 obtain ⟨h0,vs,h1,h2⟩:=h
 exact ⟨h0,vs,fun i hi=>by obtain ⟨b,off,h1,_,h3,h4⟩:=h1 i hi;exact ⟨b,off,h1,h3,h4⟩,fun i hi=>(h2 i hi).here⟩
theorem vasR_empty {w:World} {S:Nat→Prop} {A:Option Addr}:VasR w S A []:=⟨Nat.zero_le _,fun _=>.bool false,fun i hi=>absurd hi (by simp),fun i hi=>absurd hi (by simp)⟩
theorem VasR.of_in {w:World} {S:Nat→Prop} {A:Option Addr} {ts:List Va} (h:VasIn w S A ts):VasR w S A ts:=by
 obtain ⟨h0,ga,vs,Ss,h1,h2,h3,h4⟩:=h
 refine ⟨h0,vs,fun i hi=>?_,fun i hi=>(VaR.of_in (h4 i hi)).wide fun b hb _=>(h2 i hi b hb).1⟩
 rcases h1 with rfl | ⟨rfl,h5,h6⟩
 ·exact absurd hi (by simp)
 ·exact ⟨ga,0,rfl,h5,h6.lt,fun j hj=>by rw [Nat.zero_add];exact h6.cell i j hi hj⟩
theorem VasR.of_at {w:World} {B:Nat} {A:Option Addr} {ts:List Va} (h:VasAt w B A ts) (hB:B≤w.heap.size):VasR w (fun b=>b<B) A ts:=by
 obtain ⟨h0,vs,h1,h2⟩:=h
 exact ⟨h0,vs,fun i hi=>by obtain ⟨b,off,h1,h3,h4⟩:=h1 i hi;exact ⟨b,off,h1,h3,Nat.lt_of_lt_of_le h3 hB,h4⟩,fun i hi=>VaR.of_at (h2 i hi) hB⟩
theorem VaR.open {w:World} {S:Nat→Prop} {v:Value} {t:Va} (h:VaR w S v t):∃ L lc A ac,v=.agg #[.int .i64 t.kind,.int .i64 t.num,.string t.name,.slice L t.labels.length lc,.slice A t.args.length ac]∧t.name.size≤maxLen∧t.labels.length≤maxLen∧(∀ i,(h:i<t.labels.length)→t.labels[i].size≤maxLen)∧StrsR w S L t.labels∧VasR w S A t.args:=by
 cases h with
 | mk vs hnm hn hz hm hls hes hks=>exact ⟨_,_,_,_,rfl,hnm,hn,hz,hls,hm,vs,hes,hks⟩
theorem VaR.of {w:World} {S:Nat→Prop} {lc ac:Nat} {L A:Option Addr} {k n:Int} {nm:ByteArray} {ls:List ByteArray} {ts:List Va} (hnm:nm.size≤maxLen) (hn:ls.length≤maxLen) (hz:∀ i,(h:i<ls.length)→ls[i].size≤maxLen) (hl:StrsR w S L ls) (ha:VasR w S A ts):VaR w S (.agg #[.int .i64 k,.int .i64 n,.string nm,.slice L ls.length lc,.slice A ts.length ac]) (.mk k n nm ls ts):=by
 obtain ⟨h0,vs,h1,h2⟩:=ha
 exact .mk vs hnm hn hz h0 hl h1 h2
theorem StrsR.here {w:World} {S:Nat→Prop} {L:Option Addr} {ls:List ByteArray} (h:StrsR w S L ls):StrsAt w w.heap.size L ls:=fun i hi=>by
 obtain ⟨b,off,h1,_,h3,h4⟩:=h i hi
 exact ⟨b,off,h1,h3,h4⟩
theorem VasR.elem {w:World} {S:Nat→Prop} {A:Option Addr} {ts:List Va} (h:VasR w S A ts) (i:Nat) (hi:i<ts.length):
  ∃ b off L lc A' ac,A=some ⟨b,off,none⟩∧S b∧b<w.heap.size∧w.cell? ⟨b,off+i * 5,none⟩=some (.int .i64 ts[i].kind)∧w.cell? ⟨b,off+i * 5+1,none⟩=some (.int .i64 ts[i].num)∧w.cell? ⟨b,off+i * 5+2,none⟩=some (.string ts[i].name)∧
   w.cell? ⟨b,off+i * 5+3,none⟩=some (.slice L ts[i].labels.length lc)∧w.cell? ⟨b,off+i * 5+4,none⟩=some (.slice A' ts[i].args.length ac)∧
   VaR w S (.agg #[.int .i64 ts[i].kind,.int .i64 ts[i].num,.string ts[i].name,.slice L ts[i].labels.length lc,.slice A' ts[i].args.length ac]) ts[i]:=by
 obtain ⟨h0,vs,h1,h2⟩:=h
 obtain ⟨b,off,e,hb,hbl,hc⟩:=h1 i hi
 have ht:=h2 i hi
 obtain ⟨L,lc,A',ac,hv,_⟩:=ht.open
 rw [hv] at hc ht
 exact ⟨b,off,L,lc,A',ac,e,hb,hbl,hc 0 (by omega),hc 1 (by omega),hc 2 (by omega),hc 3 (by omega),hc 4 (by omega),ht⟩
structure GotVAt (w:World) (base:Nat) (S:Nat→Prop) (v:Value) (ts:List Va) (xs:List Value) (vs:Nat→Value):Prop where
 own:w.ownsRow base 41 5 v ts.length xs
 cells:∀ i,i<ts.length→∀ j,j<5→(partAt (vs i) j).isSome=true∧xs[i * 5+j]?=partAt (vs i) j
 kids:∀ i,(h:i<ts.length)→VaR w (fun b=>S b∧v.ownBlock≠some b) (vs i) ts[i]
def GotV (w:World) (base:Nat) (S:Nat→Prop) (v:Value) (ts:List Va):Prop:=∃ xs vs,GotVAt w base S v ts xs vs
theorem GotV.start (w:World) (base:Nat) (S:Nat→Prop):GotV w base S (.slice none 0 0) []:=
 ⟨[],fun _=>.bool false,World.ownsRow_nil w base _ 5,fun _ h=>absurd h (Nat.not_lt_zero _),fun _ h=>absurd h (Nat.not_lt_zero _)⟩
theorem GotV.lit {w:World} {base:Nat} {S:Nat→Prop} {v:Value} (h:w.ownsRow base 41 5 v 0 []):GotV w base S v []:=
 ⟨[],fun _=>.bool false,h,fun _ h=>absurd h (Nat.not_lt_zero _),fun _ h=>absurd h (Nat.not_lt_zero _)⟩
theorem GotVAt.keep {w w':World} {base:Nat} {S:Nat→Prop} {v:Value} {ts:List Va} {xs:List Value} {vs:Nat→Value} (h:GotVAt w base S v ts xs vs) (hb:Below w.heap.size w w'):GotVAt w' base S v ts xs vs:=
 ⟨own_keep5 h.own fun g hg=>hb.block g (h.own.lt g hg).2,h.cells,fun i hi=>(h.kids i hi).up hb⟩
theorem GotV.below {w w':World} {base:Nat} {S:Nat→Prop} {v:Value} {ts:List Va} (h:GotV w base S v ts) (hb:Below w.heap.size w w'):GotV w' base S v ts:=by
 obtain ⟨xs,vs,h⟩:=h
 exact ⟨xs,vs,h.keep hb⟩
theorem GotV.form {w:World} {base:Nat} {S:Nat→Prop} {v:Value} {ts:List Va} (h:GotV w base S v ts):∃ A c,v=.slice A ts.length c:=by
 obtain ⟨xs,vs,h⟩:=h
 rcases h.own.2 with ⟨h1,h2⟩ | ⟨g,cap,cur,h1,_⟩
 ·exact ⟨none,0,by rw [h1,h2]⟩
 ·exact ⟨_,_,h1⟩
theorem GotV.lt {w:World} {base:Nat} {S:Nat→Prop} {v:Value} {ts:List Va} (h:GotV w base S v ts):∀ g,v.ownBlock=some g→base≤g∧g<w.heap.size:=by
 obtain ⟨xs,vs,h⟩:=h
 exact h.own.lt
def cellsV (vs:Nat→Value):Nat→List Value
 | 0=>[]
 | n+1=>cellsV vs n++(List.range 5).map fun j=>(partAt (vs n) j).getD (.bool false)
theorem cellsV_len (vs:Nat→Value):∀ n,(cellsV vs n).length=n * 5
 | 0=>rfl
 | n+1=>by rw [cellsV,List.length_append,cellsV_len vs n];simp;omega
theorem cellsV_at (vs:Nat→Value):∀ n i j,i<n→j<5→(cellsV vs n)[i * 5+j]?=some ((partAt (vs i) j).getD (.bool false))
 | 0,i,j,h,_=>absurd h (Nat.not_lt_zero i)
 | n+1,i,j,h,hj=>by
  rw [cellsV]
  by_cases e:i=n
  ·subst e
   rw [List.getElem?_append_right (by rw [cellsV_len];omega),cellsV_len,show i * 5+j - i * 5=j by omega]
   simp [hj]
  ·rw [List.getElem?_append_left (by rw [cellsV_len];omega)]
   exact cellsV_at vs n i j (by omega) hj
theorem VasR.cells {w:World} {S:Nat→Prop} {A:Option Addr} {ts:List Va} (h:VasR w S A ts):∃ (news:List Value) (vs:Nat→Value),news.length=ts.length * 5∧CellsAt w A news∧(∀ u ∈ news,u.oneCell'=true)∧(∀ i,i<ts.length→∀ j,j<5→(partAt (vs i) j).isSome=true∧news[i * 5+j]?=partAt (vs i) j)∧∀ i,(hi:i<ts.length)→VaR w S (vs i) ts[i]:=by
 obtain ⟨h0,vs,h1,h2⟩:=h
 have hp:∀ i,(hi:i<ts.length)→∃ a b c d e,vs i=.agg #[a,b,c,d,e]∧a.oneCell'=true∧b.oneCell'=true∧c.oneCell'=true∧d.oneCell'=true∧e.oneCell'=true:=fun i hi=>by
  obtain ⟨L,lc,A',ac,hv,_⟩:=(h2 i hi).open
  exact ⟨_,_,_,_,_,hv,rfl,rfl,rfl,rfl,rfl⟩
 have hsome:∀ i,i<ts.length→∀ j,j<5→∃ u,partAt (vs i) j=some u∧u.oneCell'=true:=fun i hi j hj=>by
  obtain ⟨a,b,c,d,e,hv,ha,hb,hc,hd,he⟩:=hp i hi
  rw [hv]
  have:j=0∨j=1∨j=2∨j=3∨j=4:=by omega
  rcases this with rfl | rfl | rfl | rfl | rfl
  ·exact ⟨a,rfl,ha⟩
  ·exact ⟨b,rfl,hb⟩
  ·exact ⟨c,rfl,hc⟩
  ·exact ⟨d,rfl,hd⟩
  ·exact ⟨e,rfl,he⟩
 have hget:∀ i,i<ts.length→∀ j,j<5→(cellsV vs ts.length)[i * 5+j]?=partAt (vs i) j:=fun i hi j hj=>by
  obtain ⟨u,hu,_⟩:=hsome i hi j hj
  rw [cellsV_at vs _ i j hi hj,hu]
  rfl
 refine ⟨cellsV vs ts.length,vs,cellsV_len _ _,?_,fun u hu=>?_,fun i hi j hj=>⟨?_,hget i hi j hj⟩,h2⟩
 ·by_cases hz:ts.length=0
  ·left
   exact List.length_eq_zero_iff.1 (by rw [cellsV_len,hz])
  ·right
   obtain ⟨b,off,e,_⟩:=h1 0 (by omega)
   refine ⟨⟨b,off,none⟩,e,fun q u hu=>?_⟩
   have hq:q<ts.length * 5:=by
    have:=(List.getElem?_eq_some_iff.1 hu).1
    rw [cellsV_len] at this
    exact this
   obtain ⟨b',off',e',_,_,hc⟩:=h1 (q / 5) (by omega)
   have heq:=e.symm.trans e'
   simp only [Option.some.injEq,Addr.mk.injEq,and_true] at heq
   obtain ⟨rfl,rfl⟩:=heq
   have h5:=hget (q / 5) (by omega) (q % 5) (Nat.mod_lt _ (by omega))
   rw [show q / 5 * 5+q % 5=q by omega,hu] at h5
   have h6:=hc (q % 5) (Nat.mod_lt _ (by omega))
   rw [← h5,show off+q / 5 * 5+q % 5=off+q by omega] at h6
   rw [WideShapes.add_plain]
   exact h6
 ·obtain ⟨q,hq,rfl⟩:=List.getElem_of_mem hu
  have hq':=hq
  rw [cellsV_len] at hq'
  obtain ⟨u,hu1,hu2⟩:=hsome (q / 5) (by omega) (q % 5) (Nat.mod_lt _ (by omega))
  have h5:=hget (q / 5) (by omega) (q % 5) (Nat.mod_lt _ (by omega))
  rw [show q / 5 * 5+q % 5=q by omega,List.getElem?_eq_getElem hq,hu1] at h5
  rw [Option.some.inj h5]
  exact hu2
 ·obtain ⟨u,hu,_⟩:=hsome i hi j hj
  rw [hu]
  rfl
theorem GotVAt.step {w1 w2:World} {base:Nat} {S:Nat→Prop} {v v':Value} {ts us:List Va} {xs news:List Value} {vs us':Nat→Value} (h:GotVAt w1 base S v ts xs vs)
  (hc:∀ i,i<us.length→∀ j,j<5→(partAt (us' i) j).isSome=true∧news[i * 5+j]?=partAt (us' i) j) (hk:∀ i,(hi:i<us.length)→VaR w1 (fun b=>S b∧v.ownBlock≠some b) (us' i) us[i])
  (hown:w2.ownsRow base 41 5 v' (ts.length+us.length) (xs++news)) (hg:w1.grownBy w2 v.ownBlock) (hat:∀ g,v'.ownBlock=some g→v.ownBlock=some g∨w1.heap.size≤g):
  GotVAt w2 base S v' (ts++us) (xs++news) (fun i=>if i<ts.length then vs i else us' (i - ts.length)):=by
 have hxl:xs.length=ts.length * 5:=h.own.1
 have hkeep:∀ (x:Value) (t:Va),VaR w1 (fun b=>S b∧v.ownBlock≠some b) x t→VaR w2 (fun b=>S b∧v'.ownBlock≠some b) x t:=fun x t hx=>by
  have h1:VaR w1 (fun b=>(S b∧v.ownBlock≠some b)∧b<w1.heap.size) x t:=hx.wide fun b hb hl=>⟨hb,hl⟩
  exact (h1.keep (w':=w2) (fun b hb hl=>hg.block b hl fun e=>hb.1.2 e.symm) hg.size).wide fun b hb _=>⟨hb.1.1,fun e=>(hat b e).elim hb.1.2 fun hge=>by have:=hb.2;omega⟩
 refine ⟨by rw [List.length_append];exact hown,fun i hi j hj=>?_,fun i hi=>?_⟩
 ·rw [List.length_append] at hi
  by_cases hlt:i<ts.length
  ·rw [if_pos hlt,List.getElem?_append_left (by omega)]
   exact h.cells i hlt j hj
  ·rw [if_neg hlt,List.getElem?_append_right (by omega),hxl,show i * 5+j - ts.length * 5=(i - ts.length) * 5+j by omega]
   exact hc (i - ts.length) (by omega) j hj
 ·rw [List.length_append] at hi
  by_cases hlt:i<ts.length
  ·rw [if_pos hlt,List.getElem_append_left hlt]
   exact hkeep _ _ (h.kids i hlt)
  ·rw [if_neg hlt,List.getElem_append_right (by omega)]
   exact hkeep _ _ (hk (i - ts.length) (by omega))
theorem GotV.done {w:World} {base:Nat} {S S':Nat→Prop} {A:Option Addr} {c:Nat} {ts:List Va} (h:GotV w base S (.slice A ts.length c) ts) (hm:ts.length≤maxLen) (hS:∀ b,S b→S' b) (hb:∀ b,base≤b→S' b):VasR w S' A ts:=by
 obtain ⟨xs,vs,h⟩:=h
 refine ⟨hm,vs,fun i hi=>?_,fun i hi=>(h.kids i hi).wide fun b hb _=>hS b hb.1⟩
 rcases h.own.2 with ⟨_,h2⟩ | ⟨g,cap,cur,h1,h2,h3,h4,h5,h6,h7⟩
 ·omega
 ·injection h1 with h1 _ _
  subst h1
  have hgl:=(h.own.lt g rfl).2
  refine ⟨g,0,rfl,hb g h2,hgl,fun j hj=>?_⟩
  have hc:=h.cells i hi j hj
  rw [Nat.zero_add,cell_of_row w g _ cur 41 (0,0) h3,← hc.2,← h7,List.getElem?_take,if_pos (by omega)]
  simp
theorem append_cells_at {P:Program} (w:World) (base:Nat) (t ty e:TypeId) (i:TypeInfo) (z:Value) (size bytes:Nat) (ht:P.underlying t=some (.slice e)) (hi:P.info? e=some i) (hz:i.zero=some z)
  (hsize:i.size=size) (hby:i.bytes=bytes) (hzs:z.cells.size=size) (hsz:0<size)
  (v:Value) (n:Nat) (xs:List Value) (hown:w.ownsRow base e size v n xs)
  (A:Option Addr) (m c:Nat) (news:List Value) (hl:news.length=m * size) (hnews:CellsAt w A news) (h1:∀ u ∈ news,u.oneCell'=true)
  (h63:n+m≤maxLen) (hbytes:(n+m) * bytes≤140737488355328) (hbase:base≤w.heap.size):
  ∃ v' w',(Builtin.append_ #[t,t] ty #[v,.slice A m c]).run P w=.ok v' w'∧w'.ownsRow base e size v' (n+m) (xs++news)∧w.grownBy w' v.ownBlock∧∀ g,v'.ownBlock=some g→v.ownBlock=some g∨w.heap.size≤g:=by
 cases A with
 | none=>
  have hn:news=[]:=by
   rcases hnews with h | ⟨ad,h,_⟩
   ·exact h
   ·cases h
  subst hn
  have hm:m=0:=by
   rcases Nat.eq_zero_or_pos m with h | h
   ·exact h
   ·have:=Nat.mul_pos h hsz
    simp at hl
    omega
  subst hm
  exact ⟨v,w,append_nothing w base t ty e i size ht hi v n xs hown c,by simpa using hown,only_refl w _,fun g hg=>.inl hg⟩
 | some ad=>
  have hc:∀ j u,news[j]?=some u→w.cell? (ad.add j)=some u:=by
   rcases hnews with h | ⟨ad',h,h2⟩
   ·subst h
    intro j u hu
    simp at hu
   ·cases h
    exact h2
  obtain ⟨v',w',h2,h3,h4,_,h5⟩:=run_append_own_at (P:=P) w base t ty e i z size bytes ht hi hz hsize hby hzs hsz v n xs hown ad m c news hl hc h1 h63 hbytes hbase
  refine ⟨v',w',h2,h3,h4,fun g hg=>?_⟩
  rcases h5 with h5 | h5
  ·exact .inl (h5.symm.trans hg)
  ·right
   rw [h5] at hg
   have:=Option.some.inj hg
   omega
theorem append_got {w:World} {base:Nat} {S:Nat→Prop} {v:Value} {ts us:List Va} (ty:TypeId) (h:GotV w base S v ts) (A:Option Addr) (c:Nat) (hu:VasR w (fun b=>S b∧v.ownBlock≠some b) A us) (hn:ts.length+us.length≤1073741824) (hbase:base≤w.heap.size):
  ∃ v' w',(Builtin.append_ #[39,39] ty #[v,.slice A us.length c]).run Tryz.prog w=.ok v' w'∧GotV w' base S v' (ts++us)∧w.grownBy w' v.ownBlock:=by
 obtain ⟨i1,hi1,hy0,hy1,hy2⟩:=info_parts infoValue
 obtain ⟨xs,vs,hG⟩:=h
 obtain ⟨news,us',hl,hc,h1,hg,hk⟩:=hu.cells
 obtain ⟨v',w',hr,hown,hgrow,hat⟩:=append_cells_at w base 39 ty 41 i1 (.agg #[.int .i64 0,.int .i64 0,.string ⟨#[]⟩,.slice none 0 0,.slice none 0 0]) 5 80 Tryz.underlying39 hi1 hy0 hy1 hy2 rfl (by decide) v ts.length xs hG.own A us.length c news hl hc h1 (by unfold maxLen;omega) (by omega) hbase
 exact ⟨v',w',hr,⟨_,_,hG.step hg hk hown hgrow hat⟩,hgrow⟩
theorem wpList_append_got {w:World} {base:Nat} {S:Nat→Prop} {ts us:List Va} {ops:Array Oper} {rest:List Oper} {o:Oper} {a:Act} {Q:Exit→Act→World→Prop} (hgd:o.guard=none) (s x:Operand)
  (ho:o.op=.call { callee:=.builtin .append,args:=#[s,x],argTypes:=#[39,39] }) (v:Value) (hs:a.eval s=v) (h:GotV w base S v ts) (A:Option Addr) (m c:Nat) (hm:us.length=m) (hx:a.eval x=.slice A m c) (hu:VasR w (fun b=>S b∧v.ownBlock≠some b) A us) (hn:ts.length+us.length≤1073741824) (hbase:base≤w.heap.size)
  (hK:∀ v' w',GotV w' base S v' (ts++us)→w.grownBy w' v.ownBlock→wpList Tryz.prog ops Q rest (a.put o.dst v') w'):wpList Tryz.prog ops Q (o::rest) a w:=by
 refine wpList_plain hgd fun K hK2=>?_
 obtain ⟨v',w',hr,h2,h3⟩:=append_got (w:=w) o.type h A c hu hn hbase
 subst hm
 unfold Oper.wp execOp
 simp only [ho,resolve,invoke,builtin,Sem.run_bind,Sem.run_pure,Result.andThen_ok,List.map_toArray,List.map_cons,List.map_nil,hs,hx,hr]
 exact hK2 _ _ (hK v' w' h2 h3)
theorem step_append_got {w:World} {base:Nat} {S:Nat→Prop} {ts us:List Va} {ops:Array Oper} {o:Oper} {a:Act} {K:Act→World→Prop} {Q:Exit→Act→World→Prop} {E:Prop} (hgd:o.guard=none) (s x:Operand)
  (ho:o.op=.call { callee:=.builtin .append,args:=#[s,x],argTypes:=#[39,39] }) (v:Value) (hs:a.eval s=v) (h:GotV w base S v ts) (A:Option Addr) (m c:Nat) (hm:us.length=m) (hx:a.eval x=.slice A m c) (hu:VasR w (fun b=>S b∧v.ownBlock≠some b) A us) (hn:ts.length+us.length≤1073741824) (hbase:base≤w.heap.size)
  (hK:∀ v' w',GotV w' base S v' (ts++us)→w.grownBy w' v.ownBlock→K (a.put o.dst v') w'):if Region.wanted o (yielded ops a.tmps)=true then Oper.wp Tryz.prog o a w K Q else E:=by
 have hw:Region.wanted o (yielded ops a.tmps)=true:=by simp [Region.wanted,hgd]
 rw [if_pos hw]
 obtain ⟨v',w',hr,h2,h3⟩:=append_got (w:=w) o.type h A c hu hn hbase
 subst hm
 unfold Oper.wp execOp
 simp only [ho,resolve,invoke,builtin,Sem.run_bind,Sem.run_pure,Result.andThen_ok,List.map_toArray,List.map_cons,List.map_nil,hs,hx,hr]
 exact hK v' w' h2 h3
theorem VasR.one {w:World} {S:Nat→Prop} {a b c d e:Value} {u:Va} (h:VaR w S (.agg #[a,b,c,d,e]) u):VasR (w.alloc (.cells #[a,b,c,d,e] 41)) (fun q=>S q∨q=w.heap.size) (some ⟨w.heap.size,0,none⟩) [u]:=by
 refine ⟨by simp [maxLen],fun _=>.agg #[a,b,c,d,e],fun i hi=>?_,fun i hi=>?_⟩
 ·have h0:i=0:=by simp at hi;exact hi
  subst h0
  refine ⟨w.heap.size,0,rfl,.inr rfl,by simp,fun j hj=>?_⟩
  rw [World.cell?_alloc_at _ _ _ _ rfl]
  have:j=0∨j=1∨j=2∨j=3∨j=4:=by omega
  rcases this with rfl | rfl | rfl | rfl | rfl<;>rfl
 ·have h0:i=0:=by simp at hi;exact hi
  subst h0
  exact (h.up ((Below.refl _ _).alloc (Nat.le_refl _) _)).wide fun q hq _=>.inl hq
theorem VasR.one_at {w W:World} {S:Nat→Prop} {a b c d e:Value} {u:Va} {g:Nat} (h:VaR w S (.agg #[a,b,c,d,e]) u) (hb:Below w.heap.size w W) (hw:Whole1 W g 41 #[a,b,c,d,e]):VasR W (fun q=>S q∨q=g) (some ⟨g,0,none⟩) [u]:=by
 refine ⟨by simp [maxLen],fun _=>.agg #[a,b,c,d,e],fun i hi=>?_,fun i hi=>?_⟩
 ·have h0:i=0:=by simp at hi;exact hi
  subst h0
  refine ⟨g,0,rfl,.inr rfl,hw.lt,fun j hj=>?_⟩
  rw [hw.cell]
  have:j=0∨j=1∨j=2∨j=3∨j=4:=by omega
  rcases this with rfl | rfl | rfl | rfl | rfl<;>rfl
 ·have h0:i=0:=by simp at hi;exact hi
  subst h0
  exact (h.up hb).wide fun q hq _=>.inl hq
def VasPost (S:Nat→Prop) (us:List Va) (w:World) (e:Ending) (w':World):Prop:=∃ A c,e=.returned (.slice A us.length c)∧VasR w' (fun b=>S b∨w.heap.size≤b) A us∧Below w.heap.size w w'
end
end Go.Proofs.YtfnblkcmcfofoaaGreatDoor
section
namespace Go.Proofs
open Go.Shelf
def Tryz.laysVReverse_ren:Go.Shelf.Ren:=⟨fun | 35=>165 | n=>n,fun | 0=>0 | 3=>3 | 4=>4 | 22=>39 | 23=>41 | n=>n,fun | n=>n⟩
theorem Tryz.laysVReverse:Go.Proofs.SlLaysE0.n35 Tryz.prog Tryz.laysVReverse_ren:={
 mixed:=by kernel_rfl
 f35:=⟨Tryz.f165.name,by decide,Tryz.func165.trans (congrArg some (by kernel_rfl))⟩
 t0:=Tryz.underlying0
 a0:=Tryz.isAgg0
 z0:=Tryz.sizeOf0
 v0:=Tryz.zeroValue0
 t3:=Tryz.underlying3
 a3:=Tryz.isAgg3
 z3:=Tryz.sizeOf3
 v3:=Tryz.zeroValue3
 t4:=Tryz.underlying4
 a4:=Tryz.isAgg4
 z4:=Tryz.sizeOf4
 v4:=Tryz.zeroValue4
 t22:=Tryz.underlying39
 a22:=Tryz.isAgg39
 z22:=Tryz.sizeOf39
 v22:=Tryz.zeroValue39 }
def Tryz.laysVGrow_ren:Go.Shelf.Ren:=⟨fun | 4=>192 | n=>n,fun | 0=>0 | 3=>3 | 4=>4 | 9=>9 | 20=>20 | 22=>39 | 25=>41 | n=>n,fun | n=>n⟩
theorem Tryz.laysVGrow:Go.Proofs.Lays8.n4 Tryz.prog Tryz.laysVGrow_ren:={
 mixed:=by kernel_rfl
 f4:=⟨Tryz.f192.name,by decide,Tryz.func192.trans (congrArg some (by kernel_rfl))⟩
 t0:=Tryz.underlying0
 a0:=Tryz.isAgg0
 z0:=Tryz.sizeOf0
 v0:=Tryz.zeroValue0
 t3:=Tryz.underlying3
 a3:=Tryz.isAgg3
 z3:=Tryz.sizeOf3
 v3:=Tryz.zeroValue3
 t4:=Tryz.underlying4
 a4:=Tryz.isAgg4
 z4:=Tryz.sizeOf4
 v4:=Tryz.zeroValue4
 t9:=Tryz.underlying9
 a9:=Tryz.isAgg9
 z9:=Tryz.sizeOf9
 v9:=Tryz.zeroValue9
 t20:=Tryz.underlying20
 a20:=Tryz.isAgg20
 z20:=Tryz.sizeOf20
 v20:=Tryz.zeroValue20
 t22:=Tryz.underlying39
 a22:=Tryz.isAgg39
 z22:=Tryz.sizeOf39
 v22:=Tryz.zeroValue39 }
end Go.Proofs
end
