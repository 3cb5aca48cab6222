/- Lemmas: Gather, ToOt, OGather. -/
import Derived.Test.YtfnblkcmcfofoaaGreatDoorLawFoci_4
import Derived.Test.YtfnblkcmcfofoaaGreatDoorLawFoci_1
import Derived.Test.YtfnblkcmcfofoaaGreatDoorProg
import Derived.Test.YtfnblkcmcfofoaaGreatDoorLawFoci_3
import Derived.Outline

section
namespace Go.Proofs.YtfnblkcmcfofoaaGreatDoor
open Go.RowKit
theorem Filling.cells {w:World} {lo g n k:Nat} {ts:List Ty} (h:Filling w lo g n k ts) (i:Nat) (hi:i<n):∃ x y z,w.cell? ⟨g,i * 3,none⟩=some x∧w.cell? ⟨g,i * 3+1,none⟩=some y∧w.cell? ⟨g,i * 3+2,none⟩=some z∧
  w.frozen? ⟨g,i * 3,none⟩=false∧w.frozen? ⟨g,i * 3+1,none⟩=false∧w.frozen? ⟨g,i * 3+2,none⟩=false:=by
 obtain ⟨cs,vs,bd,h1,h2,_⟩:=h
 refine ⟨cs[i * 3]'(by omega),cs[i * 3+1]'(by omega),cs[i * 3+2]'(by omega),?_,?_,?_,h1.free _,h1.free _,h1.free _⟩
 all_goals rw [h1.cell,Array.getElem?_eq_getElem]
theorem Filling.start (w:World) (cs:Array Value) (n:Nat) (ts:List Ty) (hs:cs.size=n * 3):Filling (w.alloc (.cells cs 27)) w.heap.size w.heap.size n 0 ts:=
 ⟨cs,fun _=>.bool false,fun _=>w.heap.size+1,Whole1.new _ _ _,hs,fun i hi=>absurd hi (by omega),Nat.le_refl _,Nat.lt_succ_self _,fun i hi=>absurd hi (by omega),by simp,fun i _ hi=>absurd hi (by omega)⟩
set_option maxHeartbeats 1000000 in
theorem toTypeS_of (ts:List Ty) (hall:∀ i,(h:i<ts.length)→ToOne ts[i]):ToMany ts:=by
 intro A c w hA hsz
 have hm:=hA.1
 have hle:=szTys_len ts
 have HALL:=Lib.hid hall
 clear hall
 obtain ⟨cs,hcs,hmk⟩:=run_make_elems (P:=Tryz.prog) (n:=ts.length) Tryz.underlying25 infoType (by omega) (by omega) w
 have hcs':=Lib.hid hcs
 clear hcs
 go_enter Tryz.func80,Tryz.ntmps80
 go_wp2
 go_loopw [4] (fun i wr=>∃ k:Nat,k≤ts.length∧i=.int .i64 k∧Filling wr w.heap.size w.heap.size ts.length k ts∧Below w.heap.size w wr) (fun i _=>ts.length - (intOf i).toNat)
 case atStart=>exact ⟨0,Nat.zero_le _,rfl,Filling.start _ _ _ _ hcs'.out,(Below.refl _ _).alloc (Nat.le_refl _) _⟩
 case round=>
  obtain ⟨k,hk,rfl,hf,hb⟩:=hrel
  clear hmk
  by_cases hlt:k<ts.length
  ·obtain ⟨b,off,L,lc,A',ac,rfl,hbl,q0,q1,q2,hn,hz,hl,ha,ht⟩:=(hA.below hb).elem k hlt
   have hpt:=szTy_part ts k hlt
   have HT:=Lib.hid (HALL.out k hlt _ wr (ht.more hb.size) (by omega))
   have HF:=Lib.hid hf
   clear ht ha hl hz hf
   go_wp2_with fail
   refine HT.out.mono ?_
   rintro e w1 ⟨v,rfl,hv,hb1⟩
   have hv':=Lib.hid hv
   obtain ⟨L1,lc1,A1,ac1,gl1,rfl,_⟩:=hv.open
   clear hv
   obtain ⟨x,y,z,c1,c2,c3,c4,c5,c6⟩:=(HF.out.below hb1).cells k hlt
   have hst:=Lib.hid (HF.out.step hb1 hlt hlt hv'.out)
   have hb':=hb.trans (hb1.mono hb.size)
   clear q0 q1 q2 HF hv'
   go_wp2
   go_roundw
   case rel=>exact ⟨k+1,by omega,by go_num,hst.out,((hb'.setCell (Nat.le_refl _) _).setCell (Nat.le_refl _) _).setCell (Nat.le_refl _) _⟩
   case measure=>simp [intOf];omega
  ·have hke:k=ts.length:=by omega
   subst hke
   go_wp2
   go_ret
   exact ⟨_,_,rfl,Nat.le_refl _,hf.done hm,hb⟩
theorem toType_any (t:Ty):ToOne t:=by
 induction t using Ty.ind with
 | h k ls ts ih=>exact toType_of k ls ts (toTypeS_of ts ih)
end Go.Proofs.YtfnblkcmcfofoaaGreatDoor
namespace Go.Proofs.YtfnblkcmcfofoaaGreatDoor
open Go.RowKit
structure GatherAt (w:World) (base:Nat) (v:Value) (k:Nat) (ts:List Ty) (xs:List Value) (vs:Nat→Value) (lo hi:Nat→Nat):Prop where
 own:w.ownsRow base 27 3 v k xs
 cells:∀ i,i<k→∀ j,j<3→(partAt (vs i) j).isSome=true∧xs[i * 3+j]?=partAt (vs i) j
 low:∀ i,i<k→base≤lo i∧hi i≤w.heap.size
 apart:∀ i j,i<j→j<k→hi i≤lo j
 free:∀ i,i<k→∀ g,v.ownBlock=some g→¬ Span (lo i) (hi i) g
 kids:∀ i,(h:i<ts.length)→i<k→TyIn w (Span (lo i) (hi i)) (vs i) ts[i]
def Gather (w:World) (base:Nat) (v:Value) (k:Nat) (ts:List Ty):Prop:=∃ xs vs lo hi,GatherAt w base v k ts xs vs lo hi
theorem Gather.start (w:World) (base:Nat) (ts:List Ty):Gather w base (.slice none 0 0) 0 ts:=
 ⟨[],fun _=>.bool false,fun _=>0,fun _=>0,World.ownsRow_nil w base _ 3,fun _ h=>absurd h (Nat.not_lt_zero _),fun _ h=>absurd h (Nat.not_lt_zero _),fun _ _ _ h=>absurd h (Nat.not_lt_zero _),fun _ h=>absurd h (Nat.not_lt_zero _),fun _ _ h=>absurd h (Nat.not_lt_zero _)⟩
theorem own_keep {w w':World} {base k:Nat} {e:TypeId} {v:Value} {xs:List Value} (h:w.ownsRow base e 3 v k xs) (hk:∀ g,v.ownBlock=some g→w'.heap[g]?=w.heap[g]?):w'.ownsRow base e 3 v k xs:=by
 refine ⟨h.1,?_⟩
 rcases h.2 with h2 | ⟨g,cap,cur,h1,h2,h3,h4⟩
 ·exact .inl h2
 ·exact .inr ⟨g,cap,cur,h1,h2,(hk g (by rw [h1];rfl)).trans h3,h4⟩
theorem GatherAt.keep {w w':World} {base k:Nat} {v:Value} {ts:List Ty} {xs:List Value} {vs:Nat→Value} {lo hi:Nat→Nat} (h:GatherAt w base v k ts xs vs lo hi) (hs:w.heap.size≤w'.heap.size) (hk:∀ g,base≤g→g<w.heap.size→w'.heap[g]?=w.heap[g]?):GatherAt w' base v k ts xs vs lo hi:=
 ⟨own_keep h.own fun g hg=>hk g (h.own.lt g hg).1 (h.own.lt g hg).2,h.cells,fun i hi'=>⟨(h.low i hi').1,Nat.le_trans (h.low i hi').2 hs⟩,h.apart,h.free,
  fun i hi' hik=>(h.kids i hi' hik).keep fun b hb hbl=>hk b (Nat.le_trans (h.low i hik).1 hb.1) hbl⟩
theorem Gather.keep {w w':World} {base k:Nat} {v:Value} {ts:List Ty} (h:Gather w base v k ts) (hs:w.heap.size≤w'.heap.size) (hk:∀ g,base≤g→g<w.heap.size→w'.heap[g]?=w.heap[g]?):Gather w' base v k ts:=by
 obtain ⟨xs,vs,lo,hi,h⟩:=h
 exact ⟨xs,vs,lo,hi,h.keep hs hk⟩
theorem Gather.below {w w':World} {base k:Nat} {v:Value} {ts:List Ty} (h:Gather w base v k ts) (hb:Below w.heap.size w w'):Gather w' base v k ts:=h.keep hb.size fun g _ hg=>hb.block g hg
theorem Gather.set {w:World} {base k p o:Nat} {v u:Value} {ts:List Ty} (h:Gather w base v k ts) (hp:p<base):Gather (w.setCell ⟨p,o,none⟩ u) base v k ts:=
 h.keep (by simp [World.setCell]) fun g hg _=>Below.heap_setCell _ _ _ _ (by show g≠p;omega)
theorem GatherAt.step {w w1 w3:World} {base k g cap:Nat} {v a b c:Value} {ts:List Ty} {xs:List Value} {vs:Nat→Value} {lo hi:Nat→Nat} (h:GatherAt w base v k ts xs vs lo hi) (hb:Below w.heap.size w w1) (hbase:base≤w.heap.size) (hk:k<ts.length)
  (ht:TyIn w1 (Span w.heap.size w1.heap.size) (.agg #[a,b,c]) ts[k]) (hown:w3.ownsRow base 27 3 (.slice (some ⟨g,0,none⟩) (k+1) cap) (k+1) (xs++[a,b,c]))
  (hg:(w1.alloc (.cells #[a,b,c] 27)).grownBy w3 v.ownBlock) (hat:v.ownBlock=some g∨g=w1.heap.size+1):Gather w3 base (.slice (some ⟨g,0,none⟩) (k+1) cap) (k+1) ts:=by
 have hs1:=hb.size
 have hs3:w1.heap.size+1≤w3.heap.size:=by have:=hg.size;simp at this;exact this
 have hxl:xs.length=k * 3:=h.own.1
 have hkeep:∀ q,q<w1.heap.size→v.ownBlock≠some q→w3.heap[q]?=w1.heap[q]?:=fun q hq hne=>
  (hg.block q (by simp;omega) (fun e=>hne e.symm)).trans (Below.heap_alloc _ _ _ hq)
 refine ⟨xs++[a,b,c],fun i=>if i=k then .agg #[a,b,c] else vs i,fun i=>if i=k then w.heap.size else lo i,fun i=>if i=k then w1.heap.size else hi i,hown,fun i hi' j hj=>?_,fun i hi'=>?_,fun i j hij hj=>?_,fun i hi' q hq=>?_,fun i hi' hik=>?_⟩
 ·by_cases e:i=k
  ·subst e
   rw [if_pos rfl,List.getElem?_append_right (by omega),hxl]
   have:j=0∨j=1∨j=2:=by omega
   rcases this with rfl | rfl | rfl
   ·simp [partAt]
   ·simp [partAt]
   ·simp [partAt]
  ·rw [if_neg e,List.getElem?_append_left (by omega)]
   exact h.cells i (by omega) j hj
 ·by_cases e:i=k
  ·rw [if_pos e,if_pos e]
   omega
  ·rw [if_neg e,if_neg e]
   have:=h.low i (by omega)
   omega
 ·rw [if_neg (show i≠k by omega)]
  by_cases e:j=k
  ·rw [if_pos e]
   exact (h.low i (by omega)).2
  ·rw [if_neg e]
   exact h.apart i j hij (by omega)
 ·have hqg:q=g:=(Option.some.inj hq).symm
  subst hqg
  by_cases e:i=k
  ·rw [if_pos e,if_pos e]
   intro hs
   have a1:=hs.1
   have a2:=hs.2
   rcases hat with hat | hat
   ·have:=(h.own.lt q hat).2
    omega
   ·omega
  ·rw [if_neg e,if_neg e]
   rcases hat with hat | hat
   ·exact h.free i (by omega) q hat
   ·intro hs
    have:=hs.2
    have:=(h.low i (by omega)).2
    omega
 ·by_cases e:i=k
  ·subst e
   rw [if_pos rfl,if_pos rfl,if_pos rfl]
   refine ht.keep fun q hq _=>hkeep q hq.2 fun hv=>?_
   have:=(h.own.lt q hv).2
   have:=hq.1
   omega
  ·rw [if_neg e,if_neg e,if_neg e]
   refine (h.kids i hi' (by omega)).keep fun q hq hql=>?_
   rw [hkeep q (by omega) fun hv=>h.free i (by omega) q hv hq]
   exact hb.block q hql
theorem Gather.done {w:World} {base c:Nat} {A:Option Addr} {ts:List Ty} (h:Gather w base (.slice A ts.length c) ts.length ts) (hm:ts.length≤maxLen):TysIn w (Span base w.heap.size) A ts:=by
 obtain ⟨xs,vs,lo,hi,h⟩:=h
 have hdis:∀ i j,i<ts.length→j<ts.length→i≠j→∀ b,Span (lo i) (hi i) b→¬ Span (lo j) (hi j) b:=fun i j hi' hj hne b hb hb'=>by
  have:=hb.1
  have:=hb.2
  have:=hb'.1
  have:=hb'.2
  rcases Nat.lt_or_gt_of_ne hne with hlt | hlt
  ·have:=h.apart i j hlt hj
   omega
  ·have:=h.apart j i hlt hi'
   omega
 rcases h.own.2 with ⟨_,h2⟩ | ⟨g,cap,cur,h1,h2,h3,h4,h5,h6,h7⟩
 ·have:ts=[]:=List.length_eq_zero_iff.1 h2
  subst this
  exact ⟨hm,0,vs,fun _ _=>False,.inl rfl,fun i hi=>absurd hi (by simp),fun i _ hi=>absurd hi (by simp),fun i hi=>absurd hi (by simp)⟩
 ·injection h1 with h1 _ _
  subst h1
  have hgl:=(h.own.lt g rfl).2
  refine ⟨hm,g,vs,fun i=>Span (lo i) (hi i),.inr ⟨rfl,⟨h2,hgl⟩,cur,h3,fun i hi' j hj=>?_⟩,fun i hi' b hb=>⟨⟨?_,?_⟩,fun e=>h.free i hi' g rfl (by rw [← e];exact hb)⟩,hdis,fun i hi'=>h.kids i hi' hi'⟩
  ·have hc:=h.cells i hi' j hj
   refine ⟨hc.1,?_⟩
   rw [← hc.2,← h7,List.getElem?_take,if_pos (by omega)]
   simp
  ·have:=(h.low i hi').1
   have:=hb.1
   omega
  ·have:=(h.low i hi').2
   have:=hb.2
   omega
end Go.Proofs.YtfnblkcmcfofoaaGreatDoor
end
namespace Go.Proofs.YtfnblkcmcfofoaaGreatDoor
section
open Go.RowKit
def NewOt (w:World) (t:Ot) (e:Ending) (w':World):Prop:=∃ v,e=.returned v∧OtIn w' (Span w.heap.size w'.heap.size) v t∧Below w.heap.size w w'
def NewOts (w:World) (ts:List Ot) (e:Ending) (w':World):Prop:=∃ g c,e=.returned (.slice (some ⟨g,0,none⟩) ts.length c)∧w.heap.size≤g∧OtsIn w' (Span w.heap.size w'.heap.size) (some ⟨g,0,none⟩) ts∧Below w.heap.size w w'
def ToOOne (t:Ot):Prop:=∀ (v:Value) (w:World),OtAt w w.heap.size v t→szOt t≤1048576→Calls Tryz.prog 36 #[v] w (NewOt w t)
def ToOMany (ts:List Ot):Prop:=∀ (A:Option Addr) (c:Nat) (w:World),OtsAt w w.heap.size A ts→szOts ts≤1048576→Calls Tryz.prog 81 #[.slice A ts.length c] w (NewOts w ts)
set_option maxHeartbeats 1000000 in
theorem toOptic_of (k n:Int) (nm:ByteArray) (ts:List Ot) (h:ToOMany ts):ToOOne (.mk k n nm ts):=by
 intro v w hv hsz
 obtain ⟨A,ac,rfl,hnm,ha⟩:=hv.open
 rw [szOt_eq] at hsz
 simp only [Ot.kind,Ot.num,Ot.name,Ot.args] at *
 have HT:=Lib.hid (fun W hw=>h A ac W hw (by omega))
 go_enter Tryz.func36,Tryz.ntmps36
 go_wp2_with fail
 obtain ⟨hb0,q0,r0,o0,hsz0⟩:=boxes3 w 60 30 30 #[.int .i64 k,.string nm,.int .i64 n,.slice A ts.length ac] #[.int .i64 0,.string ⟨#[]⟩,.int .i64 0,.slice none 0 0] #[.int .i64 k,.string nm,.int .i64 n,.slice none 0 0]
 generalize ((w.alloc (.cells #[.int .i64 k,.string nm,.int .i64 n,.slice A ts.length ac] 60)).alloc (.cells #[.int .i64 0,.string ⟨#[]⟩,.int .i64 0,.slice none 0 0] 30)).alloc (.cells #[.int .i64 k,.string nm,.int .i64 n,.slice none 0 0] 30)=w2 at *
 have HZ:=Lib.hid hsz0
 refine (HT.out w2 (ha.up hb0)).mono ?_
 rintro e w3 ⟨g3,c3,rfl,hg3,ht3,hb3⟩
 have hw3:=o0.below hb3 o0.lt
 have hr3:=r0.below hb3 r0.lt
 have hb3':=hb0.trans (hb3.mono hb0.size)
 have hs3:=hb3.size
 have hg1:w.heap.size+3≤w2.heap.size:=by have:=HZ.out;omega
 clear hsz0
 have c4:w3.cell? ⟨w.heap.size+1+1,3,none⟩=some (.slice none 0 0):=hw3.cell 3
 have c6:w3.cell? ⟨w.heap.size+1+1,0,none⟩=some (.int .i64 k):=hw3.cell 0
 have c61:w3.cell? ⟨w.heap.size+1+1,1,none⟩=some (.string nm):=hw3.cell 1
 have c62:w3.cell? ⟨w.heap.size+1+1,2,none⟩=some (.int .i64 n):=hw3.cell 2
 have c5:w3.frozen? ⟨w.heap.size+1+1,3,none⟩=false:=hw3.free 3
 obtain ⟨d0,d1,d2,d3⟩:=hr3.c4
 obtain ⟨f0,f1,f2,f3⟩:=hr3.f4
 clear o0 r0 q0 hw3 hr3
 go_wp2
 refine bodyPost_ret (v:=.agg #[.int .i64 k,.string nm,.int .i64 n,.slice (some ⟨g3,0,none⟩) ts.length c3]) (by simp [results,Tryz.results36,go_sem,d0,d1,d2,d3]) rfl ⟨_,rfl,?_,?_⟩
 ·have hk:∀ b,w.heap.size+3≤b→(((((w3.setCell ⟨w.heap.size+1+1,3,none⟩ (.slice (some ⟨g3,0,none⟩) ts.length c3)).setCell ⟨w.heap.size+1,0,none⟩ (.int .i64 k)).setCell ⟨w.heap.size+1,1,none⟩ (.string nm)).setCell ⟨w.heap.size+1,2,none⟩ (.int .i64 n)).setCell ⟨w.heap.size+1,3,none⟩ (.slice (some ⟨g3,0,none⟩) ts.length c3)).heap[b]?=w3.heap[b]?:=fun b h=>by
   rw [Below.heap_setCell _ _ _ _ (by simp;omega),Below.heap_setCell _ _ _ _ (by simp;omega),Below.heap_setCell _ _ _ _ (by simp;omega),Below.heap_setCell _ _ _ _ (by simp;omega),Below.heap_setCell _ _ _ _ (by simp;omega)]
  have hS:(((((w3.setCell ⟨w.heap.size+1+1,3,none⟩ (.slice (some ⟨g3,0,none⟩) ts.length c3)).setCell ⟨w.heap.size+1,0,none⟩ (.int .i64 k)).setCell ⟨w.heap.size+1,1,none⟩ (.string nm)).setCell ⟨w.heap.size+1,2,none⟩ (.int .i64 n)).setCell ⟨w.heap.size+1,3,none⟩ (.slice (some ⟨g3,0,none⟩) ts.length c3)).heap.size=w3.heap.size:=by simp [World.setCell]
  rw [hS]
  refine OtIn.of (t:=.mk k n nm ts) (Sa:=Span w2.heap.size w3.heap.size) hnm (ht3.keep fun b hb _=>hk b (by have:=hb.1;omega)) fun b hb=>⟨by have:=hb.1;omega,hb.2⟩
 ·exact ((((hb3'.setCell (by simp;omega) _).setCell (by simp) _).setCell (by simp) _).setCell (by simp) _).setCell (by simp) _
theorem infoOptic:(Tryz.prog.info? 30).map (fun i=>(i.zero,i.size,i.bytes))=some (some (.agg #[.int .i64 0,.string ⟨#[]⟩,.int .i64 0,.slice none 0 0]),4,56):=by kernel_rfl
def OFilling (w:World) (lo g n k:Nat) (ts:List Ot):Prop:=
 ∃ (cs:Array Value) (vs:Nat→Value) (bd:Nat→Nat),Whole1 w g 30 cs∧cs.size=n * 4∧(∀ i,i<k→∀ j,j<4→(partAt (vs i) j).isSome=true∧cs[i * 4+j]?=partAt (vs i) j)∧
  lo≤g∧g<bd 0∧(∀ i,i<k→bd i≤bd (i+1))∧bd k≤w.heap.size∧∀ i,(hi:i<ts.length)→i<k→OtIn w (Span (bd i) (bd (i+1))) (vs i) ts[i]
theorem OFilling.done {w:World} {lo g:Nat} {ts:List Ot} (h:OFilling w lo g ts.length ts.length ts) (hm:ts.length≤maxLen):OtsIn w (Span lo w.heap.size) (some ⟨g,0,none⟩) ts:=by
 obtain ⟨cs,vs,bd,h1,h2,h3,h4,h5,h6,h7,h8⟩:=h
 refine ⟨hm,g,vs,fun i=>Span (bd i) (bd (i+1)),.inr ⟨rfl,⟨h4,h1.lt⟩,cs,h1,h3⟩,fun i hi b hb=>?_,fun i j hi hj hne b hb hb'=>?_,fun i hi=>h8 i hi hi⟩
 ·have a:=bd_mono bd _ h6 0 i (by omega) (by omega)
  have c:=bd_mono bd _ h6 (i+1) ts.length (by omega) (Nat.le_refl _)
  have:=hb.1
  have:=hb.2
  exact ⟨⟨by omega,by omega⟩,by omega⟩
 ·have:=hb.1
  have:=hb.2
  have:=hb'.1
  have:=hb'.2
  rcases Nat.lt_or_gt_of_ne hne with hlt | hlt
  ·have a:=bd_mono bd _ h6 (i+1) j (by omega) (by omega)
   omega
  ·have a:=bd_mono bd _ h6 (j+1) i (by omega) (by omega)
   omega
theorem OFilling.below {w w':World} {lo g n k:Nat} {ts:List Ot} (h:OFilling w lo g n k ts) (hb:Below w.heap.size w w'):OFilling w' lo g n k ts:=by
 obtain ⟨cs,vs,bd,h1,h2,h3,h4,h5,h6,h7,h8⟩:=h
 refine ⟨cs,vs,bd,h1.below hb h1.lt,h2,h3,h4,h5,h6,Nat.le_trans h7 hb.size,fun i hi hk=>(h8 i hi hk).keep fun b hB _=>hb.block b ?_⟩
 have:=bd_mono bd k h6 (i+1) k (by omega) (Nat.le_refl _)
 have:=hB.2
 omega
theorem OFilling.step {w w':World} {lo g n k:Nat} {ts:List Ot} {a b c d:Value} (h:OFilling w lo g n k ts) (hb:Below w.heap.size w w') (hk:k<n) (hkt:k<ts.length) (hv:OtIn w' (Span w.heap.size w'.heap.size) (.agg #[a,b,c,d]) ts[k]):
  OFilling ((((w'.setCell ⟨g,k * 4,none⟩ a).setCell ⟨g,k * 4+1,none⟩ b).setCell ⟨g,k * 4+2,none⟩ c).setCell ⟨g,k * 4+3,none⟩ d) lo g n (k+1) ts:=by
 obtain ⟨cs,vs,bd,h1,h2,h3,h4,h5,h6,h7,h8⟩:=h
 have hlt:=h1.lt
 have hw:=((((h1.below hb hlt).set (k * 4) a).set (k * 4+1) b).set (k * 4+2) c).set (k * 4+3) d
 have hsz:=hb.size
 have hk':∀ q,q≠g→((((w'.setCell ⟨g,k * 4,none⟩ a).setCell ⟨g,k * 4+1,none⟩ b).setCell ⟨g,k * 4+2,none⟩ c).setCell ⟨g,k * 4+3,none⟩ d).heap[q]?=w'.heap[q]?:=fun q hq=>by
  rw [Below.heap_setCell _ _ _ _ hq,Below.heap_setCell _ _ _ _ hq,Below.heap_setCell _ _ _ _ hq,Below.heap_setCell _ _ _ _ hq]
 have hS:((((w'.setCell ⟨g,k * 4,none⟩ a).setCell ⟨g,k * 4+1,none⟩ b).setCell ⟨g,k * 4+2,none⟩ c).setCell ⟨g,k * 4+3,none⟩ d).heap.size=w'.heap.size:=by simp [World.setCell]
 generalize (((w'.setCell ⟨g,k * 4,none⟩ a).setCell ⟨g,k * 4+1,none⟩ b).setCell ⟨g,k * 4+2,none⟩ c).setCell ⟨g,k * 4+3,none⟩ d=W at *
 have hg0:∀ i,i≤k→g<bd i:=fun i hi=>Nat.lt_of_lt_of_le h5 (bd_mono bd k h6 0 i (by omega) hi)
 refine ⟨_,fun j=>if j=k then .agg #[a,b,c,d] else vs j,fun j=>if j≤k then bd j else w'.heap.size,hw,by simp [h2],fun i hi j hj=>?_,h4,by simpa using h5,fun i hi=>?_,?_,fun i hi hik=>?_⟩
 ·dsimp only
  have hb3:k * 4+3<cs.size:=by omega
  by_cases ek:i=k
  ·subst ek
   rw [if_pos rfl]
   simp only [Array.getElem?_setIfInBounds,Array.size_setIfInBounds]
   have:j=0∨j=1∨j=2∨j=3:=by omega
   rcases this with rfl | rfl | rfl | rfl
   ·simp [partAt];omega
   ·simp [partAt];omega
   ·simp [partAt];omega
   ·simp [partAt];omega
  ·rw [if_neg ek]
   have hh:=h3 i (by omega) j hj
   refine ⟨hh.1,?_⟩
   rw [← hh.2]
   simp only [Array.getElem?_setIfInBounds,Array.size_setIfInBounds]
   rw [if_neg (by omega),if_neg (by omega),if_neg (by omega),if_neg (by omega)]
 ·dsimp only
  by_cases ek:i=k
  ·subst ek
   rw [if_pos (Nat.le_refl _),if_neg (by omega)]
   omega
  ·rw [if_pos (by omega),if_pos (by omega)]
   exact h6 i (by omega)
 ·dsimp only
  rw [if_neg (by omega),hS]
  exact Nat.le_refl _
 ·dsimp only
  by_cases ek:i=k
  ·subst ek
   rw [if_pos rfl,if_pos (Nat.le_refl _),if_neg (by omega)]
   refine (hv.wide fun q hq=>⟨by have:=hq.1;omega,hq.2⟩).keep fun q hq _=>hk' q ?_
   have:=hq.1
   have:=hg0 i (Nat.le_refl _)
   omega
  ·rw [if_neg ek,if_pos (by omega),if_pos (by omega)]
   refine (h8 i hi (by omega)).keep fun q hq _=>?_
   have e1:=hq.1
   have e2:=hq.2
   have e3:=hg0 i (by omega)
   have e4:=bd_mono bd k h6 (i+1) k (by omega) (Nat.le_refl _)
   rw [hk' q (by omega)]
   exact hb.block q (by omega)
theorem OFilling.cells {w:World} {lo g n k:Nat} {ts:List Ot} (h:OFilling w lo g n k ts) (i:Nat) (hi:i<n):∃ x y z u,w.cell? ⟨g,i * 4,none⟩=some x∧w.cell? ⟨g,i * 4+1,none⟩=some y∧w.cell? ⟨g,i * 4+2,none⟩=some z∧w.cell? ⟨g,i * 4+3,none⟩=some u∧
  w.frozen? ⟨g,i * 4,none⟩=false∧w.frozen? ⟨g,i * 4+1,none⟩=false∧w.frozen? ⟨g,i * 4+2,none⟩=false∧w.frozen? ⟨g,i * 4+3,none⟩=false:=by
 obtain ⟨cs,vs,bd,h1,h2,_⟩:=h
 refine ⟨cs[i * 4]'(by omega),cs[i * 4+1]'(by omega),cs[i * 4+2]'(by omega),cs[i * 4+3]'(by omega),?_,?_,?_,?_,h1.free _,h1.free _,h1.free _,h1.free _⟩
 all_goals rw [h1.cell,Array.getElem?_eq_getElem]
theorem OFilling.start (w:World) (cs:Array Value) (n:Nat) (ts:List Ot) (hs:cs.size=n * 4):OFilling (w.alloc (.cells cs 30)) w.heap.size w.heap.size n 0 ts:=
 ⟨cs,fun _=>.bool false,fun _=>w.heap.size+1,Whole1.new _ _ _,hs,fun i hi=>absurd hi (by omega),Nat.le_refl _,Nat.lt_succ_self _,fun i hi=>absurd hi (by omega),by simp,fun i _ hi=>absurd hi (by omega)⟩
set_option maxHeartbeats 1000000 in
theorem toOpticS_of (ts:List Ot) (hall:∀ i,(h:i<ts.length)→ToOOne ts[i]):ToOMany ts:=by
 intro A c w hA hsz
 have hm:=hA.1
 have hle:=szOts_len ts
 have HALL:=Lib.hid hall
 clear hall
 obtain ⟨cs,hcs,hmk⟩:=run_make_elems (P:=Tryz.prog) (n:=ts.length) Tryz.underlying28 infoOptic (by omega) (by omega) w
 have hcs':=Lib.hid hcs
 clear hcs
 go_enter Tryz.func81,Tryz.ntmps81
 go_wp2
 go_loopw [4] (fun i wr=>∃ k:Nat,k≤ts.length∧i=.int .i64 k∧OFilling wr w.heap.size w.heap.size ts.length k ts∧Below w.heap.size w wr) (fun i _=>ts.length - (intOf i).toNat)
 case atStart=>exact ⟨0,Nat.zero_le _,rfl,OFilling.start _ _ _ _ hcs'.out,(Below.refl _ _).alloc (Nat.le_refl _) _⟩
 case round=>
  obtain ⟨k,hk,rfl,hf,hb⟩:=hrel
  clear hmk
  by_cases hlt:k<ts.length
  ·obtain ⟨b,off,A',ac,rfl,hbl,q0,q1,q2,q3,ht⟩:=(hA.below hb).elem k hlt
   have hpt:=szOt_part ts k hlt
   have HT:=Lib.hid (HALL.out k hlt _ wr (ht.more hb.size) (by omega))
   have HF:=Lib.hid hf
   clear ht hf
   go_wp2_with fail
   refine HT.out.mono ?_
   rintro e w1 ⟨v,rfl,hv,hb1⟩
   have hv':=Lib.hid hv
   obtain ⟨A1,ac1,rfl,_⟩:=hv.open
   clear hv
   obtain ⟨x,y,z,x4,c1,c2,c3,c4,c5,c6,c7,c8⟩:=(HF.out.below hb1).cells k hlt
   have hst:=Lib.hid (HF.out.step hb1 hlt hlt hv'.out)
   have hb':=hb.trans (hb1.mono hb.size)
   clear q0 q1 q2 q3 HF hv'
   go_wp2
   go_roundw
   case rel=>exact ⟨k+1,by omega,by go_num,hst.out,(((hb'.setCell (Nat.le_refl _) _).setCell (Nat.le_refl _) _).setCell (Nat.le_refl _) _).setCell (Nat.le_refl _) _⟩
   case measure=>simp [intOf];omega
  ·have hke:k=ts.length:=by omega
   subst hke
   go_wp2
   go_ret
   exact ⟨_,_,rfl,Nat.le_refl _,hf.done hm,hb⟩
theorem toOptic_any (t:Ot):ToOOne t:=by
 induction t using Ot.ind with
 | h k n nm ts ih=>exact toOptic_of k n nm ts (toOpticS_of ts ih)
end
section
open Go.RowKit
structure OGatherAt (w:World) (base:Nat) (v:Value) (k:Nat) (ts:List Ot) (xs:List Value) (vs:Nat→Value) (lo hi:Nat→Nat):Prop where
 own:w.ownsRow base 30 4 v k xs
 cells:∀ i,i<k→∀ j,j<4→(partAt (vs i) j).isSome=true∧xs[i * 4+j]?=partAt (vs i) j
 low:∀ i,i<k→base≤lo i∧hi i≤w.heap.size
 apart:∀ i j,i<j→j<k→hi i≤lo j
 free:∀ i,i<k→∀ g,v.ownBlock=some g→¬ Span (lo i) (hi i) g
 kids:∀ i,(h:i<ts.length)→i<k→OtIn w (Span (lo i) (hi i)) (vs i) ts[i]
def OGather (w:World) (base:Nat) (v:Value) (k:Nat) (ts:List Ot):Prop:=∃ xs vs lo hi,OGatherAt w base v k ts xs vs lo hi
theorem OGather.start (w:World) (base:Nat) (ts:List Ot):OGather w base (.slice none 0 0) 0 ts:=
 ⟨[],fun _=>.bool false,fun _=>0,fun _=>0,World.ownsRow_nil w base _ 4,fun _ h=>absurd h (Nat.not_lt_zero _),fun _ h=>absurd h (Nat.not_lt_zero _),fun _ _ _ h=>absurd h (Nat.not_lt_zero _),fun _ h=>absurd h (Nat.not_lt_zero _),fun _ _ h=>absurd h (Nat.not_lt_zero _)⟩
theorem own_keep4o {w w':World} {base k:Nat} {e:TypeId} {v:Value} {xs:List Value} (h:w.ownsRow base e 4 v k xs) (hk:∀ g,v.ownBlock=some g→w'.heap[g]?=w.heap[g]?):w'.ownsRow base e 4 v k xs:=by
 refine ⟨h.1,?_⟩
 rcases h.2 with h2 | ⟨g,cap,cur,h1,h2,h3,h4⟩
 ·exact .inl h2
 ·exact .inr ⟨g,cap,cur,h1,h2,(hk g (by rw [h1];rfl)).trans h3,h4⟩
theorem OGatherAt.keep {w w':World} {base k:Nat} {v:Value} {ts:List Ot} {xs:List Value} {vs:Nat→Value} {lo hi:Nat→Nat} (h:OGatherAt w base v k ts xs vs lo hi) (hs:w.heap.size≤w'.heap.size) (hk:∀ g,base≤g→g<w.heap.size→w'.heap[g]?=w.heap[g]?):OGatherAt w' base v k ts xs vs lo hi:=
 ⟨own_keep4o h.own fun g hg=>hk g (h.own.lt g hg).1 (h.own.lt g hg).2,h.cells,fun i hi'=>⟨(h.low i hi').1,Nat.le_trans (h.low i hi').2 hs⟩,h.apart,h.free,
  fun i hi' hik=>(h.kids i hi' hik).keep fun b hb hbl=>hk b (Nat.le_trans (h.low i hik).1 hb.1) hbl⟩
theorem OGather.keep {w w':World} {base k:Nat} {v:Value} {ts:List Ot} (h:OGather w base v k ts) (hs:w.heap.size≤w'.heap.size) (hk:∀ g,base≤g→g<w.heap.size→w'.heap[g]?=w.heap[g]?):OGather w' base v k ts:=by
 obtain ⟨xs,vs,lo,hi,h⟩:=h
 exact ⟨xs,vs,lo,hi,h.keep hs hk⟩
theorem OGather.below {w w':World} {base k:Nat} {v:Value} {ts:List Ot} (h:OGather w base v k ts) (hb:Below w.heap.size w w'):OGather w' base v k ts:=h.keep hb.size fun g _ hg=>hb.block g hg
theorem OGather.set {w:World} {base k p o:Nat} {v u:Value} {ts:List Ot} (h:OGather w base v k ts) (hp:p<base):OGather (w.setCell ⟨p,o,none⟩ u) base v k ts:=
 h.keep (by simp [World.setCell]) fun g hg _=>Below.heap_setCell _ _ _ _ (by show g≠p;omega)
theorem OGatherAt.step {w w1 w3:World} {base k g cap:Nat} {v a b c d:Value} {ts:List Ot} {xs:List Value} {vs:Nat→Value} {lo hi:Nat→Nat} (h:OGatherAt w base v k ts xs vs lo hi) (hb:Below w.heap.size w w1) (hbase:base≤w.heap.size) (hk:k<ts.length)
  (ht:OtIn w1 (Span w.heap.size w1.heap.size) (.agg #[a,b,c,d]) ts[k]) (hown:w3.ownsRow base 30 4 (.slice (some ⟨g,0,none⟩) (k+1) cap) (k+1) (xs++[a,b,c,d]))
  (hg:(w1.alloc (.cells #[a,b,c,d] 30)).grownBy w3 v.ownBlock) (hat:v.ownBlock=some g∨g=w1.heap.size+1):OGather w3 base (.slice (some ⟨g,0,none⟩) (k+1) cap) (k+1) ts:=by
 have hs1:=hb.size
 have hs3:w1.heap.size+1≤w3.heap.size:=by have:=hg.size;simp at this;exact this
 have hxl:xs.length=k * 4:=h.own.1
 have hkeep:∀ q,q<w1.heap.size→v.ownBlock≠some q→w3.heap[q]?=w1.heap[q]?:=fun q hq hne=>
  (hg.block q (by simp;omega) (fun e=>hne e.symm)).trans (Below.heap_alloc _ _ _ hq)
 refine ⟨xs++[a,b,c,d],fun i=>if i=k then .agg #[a,b,c,d] else vs i,fun i=>if i=k then w.heap.size else lo i,fun i=>if i=k then w1.heap.size else hi i,hown,fun i hi' j hj=>?_,fun i hi'=>?_,fun i j hij hj=>?_,fun i hi' q hq=>?_,fun i hi' hik=>?_⟩
 ·by_cases ek:i=k
  ·subst ek
   rw [if_pos rfl,List.getElem?_append_right (by omega),hxl]
   have:j=0∨j=1∨j=2∨j=3:=by omega
   rcases this with rfl | rfl | rfl | rfl
   ·simp [partAt]
   ·simp [partAt]
   ·simp [partAt]
   ·simp [partAt]
  ·rw [if_neg ek,List.getElem?_append_left (by omega)]
   exact h.cells i (by omega) j hj
 ·by_cases ek:i=k
  ·rw [if_pos ek,if_pos ek]
   omega
  ·rw [if_neg ek,if_neg ek]
   have:=h.low i (by omega)
   omega
 ·rw [if_neg (show i≠k by omega)]
  by_cases ek:j=k
  ·rw [if_pos ek]
   exact (h.low i (by omega)).2
  ·rw [if_neg ek]
   exact h.apart i j hij (by omega)
 ·have hqg:q=g:=(Option.some.inj hq).symm
  subst hqg
  by_cases ek:i=k
  ·rw [if_pos ek,if_pos ek]
   intro hs
   have a1:=hs.1
   have a2:=hs.2
   rcases hat with hat | hat
   ·have:=(h.own.lt q hat).2
    omega
   ·omega
  ·rw [if_neg ek,if_neg ek]
   rcases hat with hat | hat
   ·exact h.free i (by omega) q hat
   ·intro hs
    have:=hs.2
    have:=(h.low i (by omega)).2
    omega
 ·by_cases ek:i=k
  ·subst ek
   rw [if_pos rfl,if_pos rfl,if_pos rfl]
   refine ht.keep fun q hq _=>hkeep q hq.2 fun hv=>?_
   have:=(h.own.lt q hv).2
   have:=hq.1
   omega
  ·rw [if_neg ek,if_neg ek,if_neg ek]
   refine (h.kids i hi' (by omega)).keep fun q hq hql=>?_
   rw [hkeep q (by omega) fun hv=>h.free i (by omega) q hv hq]
   exact hb.block q hql
theorem OGather.done {w:World} {base c:Nat} {A:Option Addr} {ts:List Ot} (h:OGather w base (.slice A ts.length c) ts.length ts) (hm:ts.length≤maxLen):OtsIn w (Span base w.heap.size) A ts:=by
 obtain ⟨xs,vs,lo,hi,h⟩:=h
 have hdis:∀ i j,i<ts.length→j<ts.length→i≠j→∀ b,Span (lo i) (hi i) b→¬ Span (lo j) (hi j) b:=fun i j hi' hj hne b hb hb'=>by
  have:=hb.1
  have:=hb.2
  have:=hb'.1
  have:=hb'.2
  rcases Nat.lt_or_gt_of_ne hne with hlt | hlt
  ·have:=h.apart i j hlt hj
   omega
  ·have:=h.apart j i hlt hi'
   omega
 rcases h.own.2 with ⟨_,h2⟩ | ⟨g,cap,cur,h1,h2,h3,h4,h5,h6,h7⟩
 ·have:ts=[]:=List.length_eq_zero_iff.1 h2
  subst this
  exact ⟨hm,0,vs,fun _ _=>False,.inl rfl,fun i hi=>absurd hi (by simp),fun i _ hi=>absurd hi (by simp),fun i hi=>absurd hi (by simp)⟩
 ·injection h1 with h1 _ _
  subst h1
  have hgl:=(h.own.lt g rfl).2
  refine ⟨hm,g,vs,fun i=>Span (lo i) (hi i),.inr ⟨rfl,⟨h2,hgl⟩,cur,h3,fun i hi' j hj=>?_⟩,fun i hi' b hb=>⟨⟨?_,?_⟩,fun e=>h.free i hi' g rfl (by rw [← e];exact hb)⟩,hdis,fun i hi'=>h.kids i hi' hi'⟩
  ·have hc:=h.cells i hi' j hj
   refine ⟨hc.1,?_⟩
   rw [← hc.2,← h7,List.getElem?_take,if_pos (by omega)]
   simp
  ·have:=(h.low i hi').1
   have:=hb.1
   omega
  ·have:=(h.low i hi').2
   have:=hb.2
   omega
end
end Go.Proofs.YtfnblkcmcfofoaaGreatDoor
