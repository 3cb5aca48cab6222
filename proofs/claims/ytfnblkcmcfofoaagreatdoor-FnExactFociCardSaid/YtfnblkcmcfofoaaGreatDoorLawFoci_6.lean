/- Lemmas: ToVa, VGather, EqTy, EqOt, EqVa. -/
import Derived.Test.YtfnblkcmcfofoaaGreatDoorProg
import Derived.Test.YtfnblkcmcfofoaaGreatDoorLawFoci_3
import Derived.Test.YtfnblkcmcfofoaaGreatDoorLawFoci_5
import Derived.Outline
import Derived.Test.YtfnblkcmcfofoaaGreatDoorLawFoci_4
import Derived.Deep.RegionHeld3

namespace Go.Proofs.YtfnblkcmcfofoaaGreatDoor
section
open Go.RowKit
def NewVa (w:World) (t:Va) (e:Ending) (w':World):Prop:=∃ v,e=.returned v∧VaIn w' (Span w.heap.size w'.heap.size) v t∧Below w.heap.size w w'
def NewVas (w:World) (ts:List Va) (e:Ending) (w':World):Prop:=∃ g c,e=.returned (.slice (some ⟨g,0,none⟩) ts.length c)∧w.heap.size≤g∧VasIn w' (Span w.heap.size w'.heap.size) (some ⟨g,0,none⟩) ts∧Below w.heap.size w w'
def ToVOne (t:Va):Prop:=∀ (v:Value) (w:World),VaAt w w.heap.size v t→szVa t≤1048576→Calls Tryz.prog 37 #[v] w (NewVa w t)
def ToVMany (ts:List Va):Prop:=∀ (A:Option Addr) (c:Nat) (w:World),VasAt w w.heap.size A ts→szVas ts≤1048576→Calls Tryz.prog 82 #[.slice A ts.length c] w (NewVas w ts)
set_option maxHeartbeats 1000000 in
theorem toValue_of (k n:Int) (nm:ByteArray) (ls:List ByteArray) (ts:List Va) (h:ToVMany ts):ToVOne (.mk k n nm ls ts):=by
 intro v w hv hsz
 obtain ⟨L,lc,A,ac,rfl,hnm,hn,hz,hl,ha⟩:=hv.open
 rw [szVa_eq] at hsz
 simp only [Va.kind,Va.num,Va.name,Va.labels,Va.args] at *
 have HL:=Lib.hid (fun W h=>toStringS_any L lc ls W h (by omega))
 have HT:=Lib.hid (fun W hw=>h A ac W hw (by omega))
 have HN:=Lib.hid hz
 clear hz
 go_enter Tryz.func37,Tryz.ntmps37
 go_wp2_with fail
 obtain ⟨hb0,q0,r0,o0,hsz0⟩:=boxes3 w 63 41 41 #[.int .i64 k,.int .i64 n,.string nm,.slice L ls.length lc,.slice A ts.length ac] #[.int .i64 0,.int .i64 0,.string ⟨#[]⟩,.slice none 0 0,.slice none 0 0] #[.int .i64 k,.int .i64 n,.string nm,.slice none 0 0,.slice none 0 0]
 generalize ((w.alloc (.cells #[.int .i64 k,.int .i64 n,.string nm,.slice L ls.length lc,.slice A ts.length ac] 63)).alloc (.cells #[.int .i64 0,.int .i64 0,.string ⟨#[]⟩,.slice none 0 0,.slice none 0 0] 41)).alloc (.cells #[.int .i64 k,.int .i64 n,.string nm,.slice none 0 0,.slice none 0 0] 41)=w0 at *
 have HZ:=Lib.hid hsz0
 refine (HL.out w0 (hl.up' hb0)).mono ?_
 rintro e w1 ⟨g,rfl,hg,hw1,hb1⟩
 have q1:=q0.below hb1 q0.lt
 have r1:=r0.below hb1 r0.lt
 have o1:=o0.below hb1 o0.lt
 have hb1':=hb0.trans (hb1.mono hb0.size)
 have c1:w1.cell? ⟨w.heap.size,4,none⟩=some (.slice A ts.length ac):=q1.cell 4
 have c2:w1.cell? ⟨w.heap.size+1+1,3,none⟩=some (.slice none 0 0):=o1.cell 3
 have c3:w1.frozen? ⟨w.heap.size+1+1,3,none⟩=false:=o1.free 3
 have hg1:w.heap.size+3≤g:=by have:=HZ.out;omega
 have hs1:=hb1.size
 clear q0 r0 o0 hsz0
 go_wp2_with fail
 have hw2:=Whole1.set o1 3 (.slice (some ⟨g,0,none⟩) ls.length ls.length)
 have hb2:Below w.heap.size w (w1.setCell ⟨w.heap.size+1+1,3,none⟩ (.slice (some ⟨g,0,none⟩) ls.length ls.length)):=hb1'.setCell (by simp;omega) _
 have hr2:=Whole1.below (B:=w.heap.size+2) r1 ((Below.refl _ _).setCell (p:=⟨w.heap.size+1+1,3,none⟩) (by simp) (.slice (some ⟨g,0,none⟩) ls.length ls.length)) (by omega)
 have hg2:Whole1 (w1.setCell ⟨w.heap.size+1+1,3,none⟩ (.slice (some ⟨g,0,none⟩) ls.length ls.length)) g 9 (strVals ls).toArray:=(Below.heap_setCell _ _ _ _ (by simp;omega)).trans hw1
 have hs2:(w1.setCell ⟨w.heap.size+1+1,3,none⟩ (.slice (some ⟨g,0,none⟩) ls.length ls.length)).heap.size=w1.heap.size:=by simp [World.setCell]
 have HG:=Lib.hid hw1.lt
 clear hw1 r1 o1 q1 c1 c2 c3
 generalize w1.setCell ⟨w.heap.size+1+1,3,none⟩ (.slice (some ⟨g,0,none⟩) ls.length ls.length)=w2 at *
 have HZ2:=Lib.hid hs2
 clear hs2
 refine (HT.out w2 (ha.up hb2)).mono ?_
 rintro e w3 ⟨g3,c3,rfl,hg3,ht3,hb3⟩
 have hw3:=hw2.below hb3 hw2.lt
 have hr3:=hr2.below hb3 hr2.lt
 have hl3:=hg2.below hb3 hg2.lt
 have hb3':=hb2.trans (hb3.mono hb2.size)
 have hs3:=hb3.size
 have c4:w3.cell? ⟨w.heap.size+1+1,4,none⟩=some (.slice none 0 0):=hw3.cell 4
 have c6:w3.cell? ⟨w.heap.size+1+1,0,none⟩=some (.int .i64 k):=hw3.cell 0
 have c7:w3.cell? ⟨w.heap.size+1+1,3,none⟩=some (.slice (some ⟨g,0,none⟩) ls.length ls.length):=hw3.cell 3
 have c61:w3.cell? ⟨w.heap.size+1+1,1,none⟩=some (.int .i64 n):=hw3.cell 1
 have c62:w3.cell? ⟨w.heap.size+1+1,2,none⟩=some (.string nm):=hw3.cell 2
 have c5:w3.frozen? ⟨w.heap.size+1+1,4,none⟩=false:=hw3.free 4
 obtain ⟨d0,d1,d2,d3,d4⟩:=hr3.c5
 obtain ⟨f0,f1,f2,f3,f4⟩:=hr3.f5
 clear hw2 hr2 hg2 hw3 hr3
 have hgl:=hl3.lt
 have hg1w:g<w2.heap.size:=by have:=HZ2.out;have:=HG.out;omega
 go_wp2
 refine bodyPost_ret (v:=.agg #[.int .i64 k,.int .i64 n,.string nm,.slice (some ⟨g,0,none⟩) ls.length ls.length,.slice (some ⟨g3,0,none⟩) ts.length c3]) (by simp [results,Tryz.results37,go_sem,d0,d1,d2,d3,d4]) rfl ⟨_,rfl,?_,?_⟩
 ·have hk:∀ b,w.heap.size+3≤b→((((((w3.setCell ⟨w.heap.size+1+1,4,none⟩ (.slice (some ⟨g3,0,none⟩) ts.length c3)).setCell ⟨w.heap.size+1,0,none⟩ (.int .i64 k)).setCell ⟨w.heap.size+1,1,none⟩ (.int .i64 n)).setCell ⟨w.heap.size+1,2,none⟩ (.string nm)).setCell ⟨w.heap.size+1,3,none⟩ (.slice (some ⟨g,0,none⟩) ls.length ls.length)).setCell ⟨w.heap.size+1,4,none⟩ (.slice (some ⟨g3,0,none⟩) ts.length c3)).heap[b]?=w3.heap[b]?:=fun b h=>by
   rw [Below.heap_setCell _ _ _ _ (by simp;omega),Below.heap_setCell _ _ _ _ (by simp;omega),Below.heap_setCell _ _ _ _ (by simp;omega),Below.heap_setCell _ _ _ _ (by simp;omega),Below.heap_setCell _ _ _ _ (by simp;omega),Below.heap_setCell _ _ _ _ (by simp;omega)]
  have hS:((((((w3.setCell ⟨w.heap.size+1+1,4,none⟩ (.slice (some ⟨g3,0,none⟩) ts.length c3)).setCell ⟨w.heap.size+1,0,none⟩ (.int .i64 k)).setCell ⟨w.heap.size+1,1,none⟩ (.int .i64 n)).setCell ⟨w.heap.size+1,2,none⟩ (.string nm)).setCell ⟨w.heap.size+1,3,none⟩ (.slice (some ⟨g,0,none⟩) ls.length ls.length)).setCell ⟨w.heap.size+1,4,none⟩ (.slice (some ⟨g3,0,none⟩) ts.length c3)).heap.size=w3.heap.size:=by simp [World.setCell]
  rw [hS]
  have h3:w.heap.size+3≤w2.heap.size:=by have:=HZ2.out;have:=HZ.out;omega
  refine VaIn.of (t:=.mk k n nm ls ts) (Sa:=Span w2.heap.size w3.heap.size) hnm hn HN.out (.inr ⟨rfl,⟨by omega,hgl⟩,RowStrs.same (RowStrs.of_whole hl3) (hk _ hg1)⟩) (ht3.keep fun b hb _=>hk b (by have:=hb.1;omega)) fun b hb=>⟨⟨by have:=hb.1;omega,hb.2⟩,by have:=hb.1;omega⟩
 ·exact (((((hb3'.setCell (by simp;omega) _).setCell (by simp) _).setCell (by simp) _).setCell (by simp) _).setCell (by simp) _).setCell (by simp) _
theorem infoValue:(Tryz.prog.info? 41).map (fun i=>(i.zero,i.size,i.bytes))=some (some (.agg #[.int .i64 0,.int .i64 0,.string ⟨#[]⟩,.slice none 0 0,.slice none 0 0]),5,80):=by kernel_rfl
def VFilling (w:World) (lo g n k:Nat) (ts:List Va):Prop:=
 ∃ (cs:Array Value) (vs:Nat→Value) (bd:Nat→Nat),Whole1 w g 41 cs∧cs.size=n * 5∧(∀ i,i<k→∀ j,j<5→(partAt (vs i) j).isSome=true∧cs[i * 5+j]?=partAt (vs i) j)∧
  lo≤g∧g<bd 0∧(∀ i,i<k→bd i≤bd (i+1))∧bd k≤w.heap.size∧∀ i,(hi:i<ts.length)→i<k→VaIn w (Span (bd i) (bd (i+1))) (vs i) ts[i]
theorem VFilling.done {w:World} {lo g:Nat} {ts:List Va} (h:VFilling w lo g ts.length ts.length ts) (hm:ts.length≤maxLen):VasIn w (Span lo w.heap.size) (some ⟨g,0,none⟩) ts:=by
 obtain ⟨cs,vs,bd,h1,h2,h3,h4,h5,h6,h7,h8⟩:=h
 refine ⟨hm,g,vs,fun i=>Span (bd i) (bd (i+1)),.inr ⟨rfl,⟨h4,h1.lt⟩,cs,h1,h3⟩,fun i hi b hb=>?_,fun i j hi hj hne b hb hb'=>?_,fun i hi=>h8 i hi hi⟩
 ·have a:=bd_mono bd _ h6 0 i (by omega) (by omega)
  have c:=bd_mono bd _ h6 (i+1) ts.length (by omega) (Nat.le_refl _)
  have:=hb.1
  have:=hb.2
  exact ⟨⟨by omega,by omega⟩,by omega⟩
 ·have:=hb.1
  have:=hb.2
  have:=hb'.1
  have:=hb'.2
  rcases Nat.lt_or_gt_of_ne hne with hlt | hlt
  ·have a:=bd_mono bd _ h6 (i+1) j (by omega) (by omega)
   omega
  ·have a:=bd_mono bd _ h6 (j+1) i (by omega) (by omega)
   omega
theorem VFilling.below {w w':World} {lo g n k:Nat} {ts:List Va} (h:VFilling w lo g n k ts) (hb:Below w.heap.size w w'):VFilling w' lo g n k ts:=by
 obtain ⟨cs,vs,bd,h1,h2,h3,h4,h5,h6,h7,h8⟩:=h
 refine ⟨cs,vs,bd,h1.below hb h1.lt,h2,h3,h4,h5,h6,Nat.le_trans h7 hb.size,fun i hi hk=>(h8 i hi hk).keep fun b hB _=>hb.block b ?_⟩
 have:=bd_mono bd k h6 (i+1) k (by omega) (Nat.le_refl _)
 have:=hB.2
 omega
theorem VFilling.step {w w':World} {lo g n k:Nat} {ts:List Va} {a b c d e:Value} (h:VFilling w lo g n k ts) (hb:Below w.heap.size w w') (hk:k<n) (hkt:k<ts.length) (hv:VaIn w' (Span w.heap.size w'.heap.size) (.agg #[a,b,c,d,e]) ts[k]):
  VFilling (((((w'.setCell ⟨g,k * 5,none⟩ a).setCell ⟨g,k * 5+1,none⟩ b).setCell ⟨g,k * 5+2,none⟩ c).setCell ⟨g,k * 5+3,none⟩ d).setCell ⟨g,k * 5+4,none⟩ e) lo g n (k+1) ts:=by
 obtain ⟨cs,vs,bd,h1,h2,h3,h4,h5,h6,h7,h8⟩:=h
 have hlt:=h1.lt
 have hw:=(((((h1.below hb hlt).set (k * 5) a).set (k * 5+1) b).set (k * 5+2) c).set (k * 5+3) d).set (k * 5+4) e
 have hsz:=hb.size
 have hk':∀ q,q≠g→(((((w'.setCell ⟨g,k * 5,none⟩ a).setCell ⟨g,k * 5+1,none⟩ b).setCell ⟨g,k * 5+2,none⟩ c).setCell ⟨g,k * 5+3,none⟩ d).setCell ⟨g,k * 5+4,none⟩ e).heap[q]?=w'.heap[q]?:=fun q hq=>by
  rw [Below.heap_setCell _ _ _ _ hq,Below.heap_setCell _ _ _ _ hq,Below.heap_setCell _ _ _ _ hq,Below.heap_setCell _ _ _ _ hq,Below.heap_setCell _ _ _ _ hq]
 have hS:(((((w'.setCell ⟨g,k * 5,none⟩ a).setCell ⟨g,k * 5+1,none⟩ b).setCell ⟨g,k * 5+2,none⟩ c).setCell ⟨g,k * 5+3,none⟩ d).setCell ⟨g,k * 5+4,none⟩ e).heap.size=w'.heap.size:=by simp [World.setCell]
 generalize ((((w'.setCell ⟨g,k * 5,none⟩ a).setCell ⟨g,k * 5+1,none⟩ b).setCell ⟨g,k * 5+2,none⟩ c).setCell ⟨g,k * 5+3,none⟩ d).setCell ⟨g,k * 5+4,none⟩ e=W at *
 have hg0:∀ i,i≤k→g<bd i:=fun i hi=>Nat.lt_of_lt_of_le h5 (bd_mono bd k h6 0 i (by omega) hi)
 refine ⟨_,fun j=>if j=k then .agg #[a,b,c,d,e] else vs j,fun j=>if j≤k then bd j else w'.heap.size,hw,by simp [h2],fun i hi j hj=>?_,h4,by simpa using h5,fun i hi=>?_,?_,fun i hi hik=>?_⟩
 ·dsimp only
  have hb3:k * 5+4<cs.size:=by omega
  by_cases ek:i=k
  ·subst ek
   rw [if_pos rfl]
   simp only [Array.getElem?_setIfInBounds,Array.size_setIfInBounds]
   have:j=0∨j=1∨j=2∨j=3∨j=4:=by omega
   rcases this with rfl | rfl | rfl | rfl | rfl
   ·simp [partAt];omega
   ·simp [partAt];omega
   ·simp [partAt];omega
   ·simp [partAt];omega
   ·simp [partAt];omega
  ·rw [if_neg ek]
   have hh:=h3 i (by omega) j hj
   refine ⟨hh.1,?_⟩
   rw [← hh.2]
   simp only [Array.getElem?_setIfInBounds,Array.size_setIfInBounds]
   rw [if_neg (by omega),if_neg (by omega),if_neg (by omega),if_neg (by omega),if_neg (by omega)]
 ·dsimp only
  by_cases ek:i=k
  ·subst ek
   rw [if_pos (Nat.le_refl _),if_neg (by omega)]
   omega
  ·rw [if_pos (by omega),if_pos (by omega)]
   exact h6 i (by omega)
 ·dsimp only
  rw [if_neg (by omega),hS]
  exact Nat.le_refl _
 ·dsimp only
  by_cases ek:i=k
  ·subst ek
   rw [if_pos rfl,if_pos (Nat.le_refl _),if_neg (by omega)]
   refine (hv.wide fun q hq=>⟨by have:=hq.1;omega,hq.2⟩).keep fun q hq _=>hk' q ?_
   have:=hq.1
   have:=hg0 i (Nat.le_refl _)
   omega
  ·rw [if_neg ek,if_pos (by omega),if_pos (by omega)]
   refine (h8 i hi (by omega)).keep fun q hq _=>?_
   have e1:=hq.1
   have e2:=hq.2
   have e3:=hg0 i (by omega)
   have e4:=bd_mono bd k h6 (i+1) k (by omega) (Nat.le_refl _)
   rw [hk' q (by omega)]
   exact hb.block q (by omega)
theorem VFilling.cells {w:World} {lo g n k:Nat} {ts:List Va} (h:VFilling w lo g n k ts) (i:Nat) (hi:i<n):∃ x y z u v,w.cell? ⟨g,i * 5,none⟩=some x∧w.cell? ⟨g,i * 5+1,none⟩=some y∧w.cell? ⟨g,i * 5+2,none⟩=some z∧w.cell? ⟨g,i * 5+3,none⟩=some u∧w.cell? ⟨g,i * 5+4,none⟩=some v∧
  w.frozen? ⟨g,i * 5,none⟩=false∧w.frozen? ⟨g,i * 5+1,none⟩=false∧w.frozen? ⟨g,i * 5+2,none⟩=false∧w.frozen? ⟨g,i * 5+3,none⟩=false∧w.frozen? ⟨g,i * 5+4,none⟩=false:=by
 obtain ⟨cs,vs,bd,h1,h2,_⟩:=h
 refine ⟨cs[i * 5]'(by omega),cs[i * 5+1]'(by omega),cs[i * 5+2]'(by omega),cs[i * 5+3]'(by omega),cs[i * 5+4]'(by omega),?_,?_,?_,?_,?_,h1.free _,h1.free _,h1.free _,h1.free _,h1.free _⟩
 all_goals rw [h1.cell,Array.getElem?_eq_getElem]
theorem VFilling.start (w:World) (cs:Array Value) (n:Nat) (ts:List Va) (hs:cs.size=n * 5):VFilling (w.alloc (.cells cs 41)) w.heap.size w.heap.size n 0 ts:=
 ⟨cs,fun _=>.bool false,fun _=>w.heap.size+1,Whole1.new _ _ _,hs,fun i hi=>absurd hi (by omega),Nat.le_refl _,Nat.lt_succ_self _,fun i hi=>absurd hi (by omega),by simp,fun i _ hi=>absurd hi (by omega)⟩
set_option maxHeartbeats 1000000 in
theorem toValueS_of (ts:List Va) (hall:∀ i,(h:i<ts.length)→ToVOne ts[i]):ToVMany ts:=by
 intro A c w hA hsz
 have hm:=hA.1
 have hle:=szVas_len ts
 have HALL:=Lib.hid hall
 clear hall
 obtain ⟨cs,hcs,hmk⟩:=run_make_elems (P:=Tryz.prog) (n:=ts.length) Tryz.underlying39 infoValue (by omega) (by omega) w
 have hcs':=Lib.hid hcs
 clear hcs
 go_enter Tryz.func82,Tryz.ntmps82
 go_wp2
 go_loopw [4] (fun i wr=>∃ k:Nat,k≤ts.length∧i=.int .i64 k∧VFilling wr w.heap.size w.heap.size ts.length k ts∧Below w.heap.size w wr) (fun i _=>ts.length - (intOf i).toNat)
 case atStart=>exact ⟨0,Nat.zero_le _,rfl,VFilling.start _ _ _ _ hcs'.out,(Below.refl _ _).alloc (Nat.le_refl _) _⟩
 case round=>
  obtain ⟨k,hk,rfl,hf,hb⟩:=hrel
  clear hmk
  by_cases hlt:k<ts.length
  ·obtain ⟨b,off,L,lc,A',ac,rfl,hbl,q0,q1,q2,q3,q4,ht⟩:=(hA.below hb).elem k hlt
   have hpt:=szVa_part ts k hlt
   have HT:=Lib.hid (HALL.out k hlt _ wr (ht.more hb.size) (by omega))
   have HF:=Lib.hid hf
   clear ht hf
   go_wp2_with fail
   refine HT.out.mono ?_
   rintro e w1 ⟨v,rfl,hv,hb1⟩
   have hv':=Lib.hid hv
   obtain ⟨L1,lc1,A1,ac1,gl1,rfl,_⟩:=hv.open
   clear hv
   obtain ⟨x,y,z,x4,x5,c1,c2,c3,c4,c5,c6,c7,c8,c9,c10⟩:=(HF.out.below hb1).cells k hlt
   have hst:=Lib.hid (HF.out.step hb1 hlt hlt hv'.out)
   have hb':=hb.trans (hb1.mono hb.size)
   clear q0 q1 q2 q3 q4 HF hv'
   go_wp2
   go_roundw
   case rel=>exact ⟨k+1,by omega,by go_num,hst.out,((((hb'.setCell (Nat.le_refl _) _).setCell (Nat.le_refl _) _).setCell (Nat.le_refl _) _).setCell (Nat.le_refl _) _).setCell (Nat.le_refl _) _⟩
   case measure=>simp [intOf];omega
  ·have hke:k=ts.length:=by omega
   subst hke
   go_wp2
   go_ret
   exact ⟨_,_,rfl,Nat.le_refl _,hf.done hm,hb⟩
theorem toValue_any (t:Va):ToVOne t:=by
 induction t using Va.ind with
 | h k n nm ls ts ih=>exact toValue_of k n nm ls ts (toValueS_of ts ih)
end
section
open Go.RowKit
structure VGatherAt (w:World) (base:Nat) (v:Value) (k:Nat) (ts:List Va) (xs:List Value) (vs:Nat→Value) (lo hi:Nat→Nat):Prop where
 own:w.ownsRow base 41 5 v k xs
 cells:∀ i,i<k→∀ j,j<5→(partAt (vs i) j).isSome=true∧xs[i * 5+j]?=partAt (vs i) j
 low:∀ i,i<k→base≤lo i∧hi i≤w.heap.size
 apart:∀ i j,i<j→j<k→hi i≤lo j
 free:∀ i,i<k→∀ g,v.ownBlock=some g→¬ Span (lo i) (hi i) g
 kids:∀ i,(h:i<ts.length)→i<k→VaIn w (Span (lo i) (hi i)) (vs i) ts[i]
def VGather (w:World) (base:Nat) (v:Value) (k:Nat) (ts:List Va):Prop:=∃ xs vs lo hi,VGatherAt w base v k ts xs vs lo hi
theorem VGather.start (w:World) (base:Nat) (ts:List Va):VGather w base (.slice none 0 0) 0 ts:=
 ⟨[],fun _=>.bool false,fun _=>0,fun _=>0,World.ownsRow_nil w base _ 5,fun _ h=>absurd h (Nat.not_lt_zero _),fun _ h=>absurd h (Nat.not_lt_zero _),fun _ _ _ h=>absurd h (Nat.not_lt_zero _),fun _ h=>absurd h (Nat.not_lt_zero _),fun _ _ h=>absurd h (Nat.not_lt_zero _)⟩
theorem own_keep5 {w w':World} {base k:Nat} {e:TypeId} {v:Value} {xs:List Value} (h:w.ownsRow base e 5 v k xs) (hk:∀ g,v.ownBlock=some g→w'.heap[g]?=w.heap[g]?):w'.ownsRow base e 5 v k xs:=by
 refine ⟨h.1,?_⟩
 rcases h.2 with h2 | ⟨g,cap,cur,h1,h2,h3,h4⟩
 ·exact .inl h2
 ·exact .inr ⟨g,cap,cur,h1,h2,(hk g (by rw [h1];rfl)).trans h3,h4⟩
theorem VGatherAt.keep {w w':World} {base k:Nat} {v:Value} {ts:List Va} {xs:List Value} {vs:Nat→Value} {lo hi:Nat→Nat} (h:VGatherAt w base v k ts xs vs lo hi) (hs:w.heap.size≤w'.heap.size) (hk:∀ g,base≤g→g<w.heap.size→w'.heap[g]?=w.heap[g]?):VGatherAt w' base v k ts xs vs lo hi:=
 ⟨own_keep5 h.own fun g hg=>hk g (h.own.lt g hg).1 (h.own.lt g hg).2,h.cells,fun i hi'=>⟨(h.low i hi').1,Nat.le_trans (h.low i hi').2 hs⟩,h.apart,h.free,
  fun i hi' hik=>(h.kids i hi' hik).keep fun b hb hbl=>hk b (Nat.le_trans (h.low i hik).1 hb.1) hbl⟩
theorem VGather.keep {w w':World} {base k:Nat} {v:Value} {ts:List Va} (h:VGather w base v k ts) (hs:w.heap.size≤w'.heap.size) (hk:∀ g,base≤g→g<w.heap.size→w'.heap[g]?=w.heap[g]?):VGather w' base v k ts:=by
 obtain ⟨xs,vs,lo,hi,h⟩:=h
 exact ⟨xs,vs,lo,hi,h.keep hs hk⟩
theorem VGather.below {w w':World} {base k:Nat} {v:Value} {ts:List Va} (h:VGather w base v k ts) (hb:Below w.heap.size w w'):VGather w' base v k ts:=h.keep hb.size fun g _ hg=>hb.block g hg
theorem VGather.set {w:World} {base k p o:Nat} {v u:Value} {ts:List Va} (h:VGather w base v k ts) (hp:p<base):VGather (w.setCell ⟨p,o,none⟩ u) base v k ts:=
 h.keep (by simp [World.setCell]) fun g hg _=>Below.heap_setCell _ _ _ _ (by show g≠p;omega)
theorem VGatherAt.step {w w1 w3:World} {base k g cap:Nat} {v a b c d e:Value} {ts:List Va} {xs:List Value} {vs:Nat→Value} {lo hi:Nat→Nat} (h:VGatherAt w base v k ts xs vs lo hi) (hb:Below w.heap.size w w1) (hbase:base≤w.heap.size) (hk:k<ts.length)
  (ht:VaIn w1 (Span w.heap.size w1.heap.size) (.agg #[a,b,c,d,e]) ts[k]) (hown:w3.ownsRow base 41 5 (.slice (some ⟨g,0,none⟩) (k+1) cap) (k+1) (xs++[a,b,c,d,e]))
  (hg:(w1.alloc (.cells #[a,b,c,d,e] 41)).grownBy w3 v.ownBlock) (hat:v.ownBlock=some g∨g=w1.heap.size+1):VGather w3 base (.slice (some ⟨g,0,none⟩) (k+1) cap) (k+1) ts:=by
 have hs1:=hb.size
 have hs3:w1.heap.size+1≤w3.heap.size:=by have:=hg.size;simp at this;exact this
 have hxl:xs.length=k * 5:=h.own.1
 have hkeep:∀ q,q<w1.heap.size→v.ownBlock≠some q→w3.heap[q]?=w1.heap[q]?:=fun q hq hne=>
  (hg.block q (by simp;omega) (fun e=>hne e.symm)).trans (Below.heap_alloc _ _ _ hq)
 refine ⟨xs++[a,b,c,d,e],fun i=>if i=k then .agg #[a,b,c,d,e] else vs i,fun i=>if i=k then w.heap.size else lo i,fun i=>if i=k then w1.heap.size else hi i,hown,fun i hi' j hj=>?_,fun i hi'=>?_,fun i j hij hj=>?_,fun i hi' q hq=>?_,fun i hi' hik=>?_⟩
 ·by_cases ek:i=k
  ·subst ek
   rw [if_pos rfl,List.getElem?_append_right (by omega),hxl]
   have:j=0∨j=1∨j=2∨j=3∨j=4:=by omega
   rcases this with rfl | rfl | rfl | rfl | rfl
   ·simp [partAt]
   ·simp [partAt]
   ·simp [partAt]
   ·simp [partAt]
   ·simp [partAt]
  ·rw [if_neg ek,List.getElem?_append_left (by omega)]
   exact h.cells i (by omega) j hj
 ·by_cases ek:i=k
  ·rw [if_pos ek,if_pos ek]
   omega
  ·rw [if_neg ek,if_neg ek]
   have:=h.low i (by omega)
   omega
 ·rw [if_neg (show i≠k by omega)]
  by_cases ek:j=k
  ·rw [if_pos ek]
   exact (h.low i (by omega)).2
  ·rw [if_neg ek]
   exact h.apart i j hij (by omega)
 ·have hqg:q=g:=(Option.some.inj hq).symm
  subst hqg
  by_cases ek:i=k
  ·rw [if_pos ek,if_pos ek]
   intro hs
   have a1:=hs.1
   have a2:=hs.2
   rcases hat with hat | hat
   ·have:=(h.own.lt q hat).2
    omega
   ·omega
  ·rw [if_neg ek,if_neg ek]
   rcases hat with hat | hat
   ·exact h.free i (by omega) q hat
   ·intro hs
    have:=hs.2
    have:=(h.low i (by omega)).2
    omega
 ·by_cases ek:i=k
  ·subst ek
   rw [if_pos rfl,if_pos rfl,if_pos rfl]
   refine ht.keep fun q hq _=>hkeep q hq.2 fun hv=>?_
   have:=(h.own.lt q hv).2
   have:=hq.1
   omega
  ·rw [if_neg ek,if_neg ek,if_neg ek]
   refine (h.kids i hi' (by omega)).keep fun q hq hql=>?_
   rw [hkeep q (by omega) fun hv=>h.free i (by omega) q hv hq]
   exact hb.block q hql
theorem VGather.done {w:World} {base c:Nat} {A:Option Addr} {ts:List Va} (h:VGather w base (.slice A ts.length c) ts.length ts) (hm:ts.length≤maxLen):VasIn w (Span base w.heap.size) A ts:=by
 obtain ⟨xs,vs,lo,hi,h⟩:=h
 have hdis:∀ i j,i<ts.length→j<ts.length→i≠j→∀ b,Span (lo i) (hi i) b→¬ Span (lo j) (hi j) b:=fun i j hi' hj hne b hb hb'=>by
  have:=hb.1
  have:=hb.2
  have:=hb'.1
  have:=hb'.2
  rcases Nat.lt_or_gt_of_ne hne with hlt | hlt
  ·have:=h.apart i j hlt hj
   omega
  ·have:=h.apart j i hlt hi'
   omega
 rcases h.own.2 with ⟨_,h2⟩ | ⟨g,cap,cur,h1,h2,h3,h4,h5,h6,h7⟩
 ·have:ts=[]:=List.length_eq_zero_iff.1 h2
  subst this
  exact ⟨hm,0,vs,fun _ _=>False,.inl rfl,fun i hi=>absurd hi (by simp),fun i _ hi=>absurd hi (by simp),fun i hi=>absurd hi (by simp)⟩
 ·injection h1 with h1 _ _
  subst h1
  have hgl:=(h.own.lt g rfl).2
  refine ⟨hm,g,vs,fun i=>Span (lo i) (hi i),.inr ⟨rfl,⟨h2,hgl⟩,cur,h3,fun i hi' j hj=>?_⟩,fun i hi' b hb=>⟨⟨?_,?_⟩,fun e=>h.free i hi' g rfl (by rw [← e];exact hb)⟩,hdis,fun i hi'=>h.kids i hi' hi'⟩
  ·have hc:=h.cells i hi' j hj
   refine ⟨hc.1,?_⟩
   rw [← hc.2,← h7,List.getElem?_take,if_pos (by omega)]
   simp
  ·have:=(h.low i hi').1
   have:=hb.1
   omega
  ·have:=(h.low i hi').2
   have:=hb.2
   omega
end
section
open Go.RowKit
def YesBelow (w:World) (e:Ending) (w':World):Prop:=e=.returned (.bool true)∧Below w.heap.size w w'
def EqOne (t:Ty):Prop:=∀ (v v':Value) (w:World),TyAt w w.heap.size v t→TyAt w w.heap.size v' t→Calls Tryz.prog 39 #[v,v'] w (YesBelow w)
def EqMany (ts:List Ty):Prop:=∀ (A A':Option Addr) (c c':Nat) (w:World),TysAt w w.heap.size A ts→TysAt w w.heap.size A' ts→Calls Tryz.prog 84 #[.slice A ts.length c,.slice A' ts.length c'] w (YesBelow w)
theorem drewN_below (w:World) (n:Nat):Below w.heap.size w (w.drewN n):=⟨rfl,rfl,rfl,Nat.le_refl _,fun _ _=>rfl⟩
theorem boxes2 (w:World) (t1 t2:TypeId) (a b:Array Value):
  Below w.heap.size w ((w.alloc (.cells a t1)).alloc (.cells b t2))∧Whole1 ((w.alloc (.cells a t1)).alloc (.cells b t2)) w.heap.size t1 a∧
  Whole1 ((w.alloc (.cells a t1)).alloc (.cells b t2)) (w.heap.size+1) t2 b∧((w.alloc (.cells a t1)).alloc (.cells b t2)).heap.size=w.heap.size+2:=by
 refine ⟨((Below.refl _ _).alloc (Nat.le_refl _) _).alloc (by simp) _,?_,?_,by simp⟩
 ·exact Whole1.below (B:=w.heap.size+1) (Whole1.new _ _ _) ((Below.refl _ _).alloc (by simp) _) (by omega)
 ·have h:=Whole1.new (w.alloc (.cells a t1)) t2 b
  simpa using h
set_option maxHeartbeats 1000000 in
theorem eqType_of (k:Int) (ls:List ByteArray) (ts:List Ty) (h:EqMany ts):EqOne (.mk k ls ts):=by
 intro v v' w hv hv'
 obtain ⟨L,lc,A,ac,rfl,hn,hz,hl,ha⟩:=hv.open
 obtain ⟨L',lc',A',ac',rfl,hn',hz',hl',ha'⟩:=hv'.open
 simp only [Ty.kind,Ty.labels,Ty.args] at *
 have HN:=Lib.hid hn
 have HT:=Lib.hid h
 have hkk:(k != k)=false:=by simp
 clear hz hz' hn hn' h hv hv'
 go_enter Tryz.func39,Tryz.ntmps39
 go_wp2_with fail
 obtain ⟨hb0,p0,q0,hs0⟩:=boxes2 w 27 27 #[.int .i64 k,.slice L ls.length lc,.slice A ts.length ac] #[.int .i64 k,.slice L' ls.length lc',.slice A' ts.length ac']
 generalize (w.alloc (.cells #[.int .i64 k,.slice L ls.length lc,.slice A ts.length ac] 27)).alloc (.cells #[.int .i64 k,.slice L' ls.length lc',.slice A' ts.length ac'] 27)=w0 at *
 have HZ:=Lib.hid hs0
 clear hs0
 refine (eqStringS_same _ _ _ _ _ _ ls w0 (hl.up' hb0) (hl'.up' hb0) HN.out).mono ?_
 rintro e w1 ⟨rfl,n1,rfl⟩
 have p1:=p0.drewN n1
 have q1:=q0.drewN n1
 have hb1:=hb0.trans ((drewN_below w0 n1).mono hb0.size)
 clear p0 q0
 generalize w0.drewN n1=w1 at *
 have c1:w1.cell? ⟨w.heap.size,2,none⟩=some (.slice A ts.length ac):=p1.cell 2
 have c2:w1.cell? ⟨w.heap.size+1,2,none⟩=some (.slice A' ts.length ac'):=q1.cell 2
 clear p1 q1
 go_wp2_with fail
 refine (HT.out _ _ _ _ w1 (ha.up hb1) (ha'.up hb1)).mono ?_
 rintro e w2 ⟨rfl,hb2⟩
 go_wp2
 go_ret
 exact ⟨rfl,hb1.trans (hb2.mono hb1.size)⟩
set_option maxHeartbeats 1000000 in
theorem eqTypeS_of (ts:List Ty) (hall:∀ i,(h:i<ts.length)→EqOne ts[i]):EqMany ts:=by
 intro A A' c c' w hA hA'
 have hm:=hA.1
 unfold maxLen at hm
 have HALL:=Lib.hid hall
 clear hall
 have hneq:((ts.length:Int) != ts.length)=false:=by simp
 go_enter Tryz.func84,Tryz.ntmps84
 go_wp2
 go_loopw [5] (fun i wr=>∃ k:Nat,k≤ts.length∧i=.int .i64 k∧Below w.heap.size w wr) (fun i _=>ts.length - (intOf i).toNat)
 case atStart=>exact ⟨0,Nat.zero_le _,rfl,Below.refl _ _⟩
 case round=>
  obtain ⟨k,hk,rfl,hb⟩:=hrel
  clear hneq
  by_cases hlt:k<ts.length
  ·obtain ⟨b,off,L,lc,C,cc,rfl,hbl,q0,q1,q2,_,_,_,_,ht⟩:=(hA.below hb).elem k hlt
   obtain ⟨b',off',L',lc',C',cc',rfl,hbl',q0',q1',q2',_,_,_,_,ht'⟩:=(hA'.below hb).elem k hlt
   have hbs:=hb.size
   have HT:=Lib.hid (HALL.out k hlt _ _ wr.drew ((ht.more hbs).up (Below.refl _ _).drew) ((ht'.more hbs).up (Below.refl _ _).drew))
   clear ht ht'
   go_wp2
   go_region_held3 (fun w'=>w'.cell? ⟨b,off+k * 3,none⟩=some (.int .i64 ts[k].kind)∧w'.cell? ⟨b,off+k * 3+1,none⟩=some (.slice L ts[k].labels.length lc)∧w'.cell? ⟨b,off+k * 3+2,none⟩=some (.slice C ts[k].args.length cc)∧w'.cell? ⟨b',off'+k * 3,none⟩=some (.int .i64 ts[k].kind)∧w'.cell? ⟨b',off'+k * 3+1,none⟩=some (.slice L' ts[k].labels.length lc')∧w'.cell? ⟨b',off'+k * 3+2,none⟩=some (.slice C' ts[k].args.length cc')∧Below wr.heap.size wr w') ((first | exact ⟨q0,q1,q2,q0',q1',q2',(Below.refl _ _).drew⟩ | exact ⟨k0,k1,k2,k0',k1',k2',k6⟩))
    (first | (go_at_call 39;refine HT.out.mono ?_;rintro e w' ⟨rfl,hb1⟩;have k6:=(Below.refl wr.heap.size wr).drew.trans hb1;have k0:=(kC k6 q0 (by show b < _;omega));have k1:=(kC k6 q1 (by show b < _;omega));have k2:=(kC k6 q2 (by show b < _;omega));have k0':=(kC k6 q0' (by show b' < _;omega));have k1':=(kC k6 q1' (by show b' < _;omega));have k2':=(kC k6 q2' (by show b' < _;omega))))
   go_wp2
   go_roundw
   case rel=>exact ⟨k+1,by omega,by go_num,hb.trans (k6.mono hbs)⟩
   case measure=>simp [intOf];omega
  ·go_wp2
   go_ret
   exact ⟨rfl,hb⟩
theorem eqType_any (t:Ty):EqOne t:=by
 induction t using Ty.ind with
 | h k ls ts ih=>exact eqType_of k ls ts (eqTypeS_of ts ih)
end
section
open Go.RowKit
def EqOOne (t:Ot):Prop:=∀ (v v':Value) (w:World),OtAt w w.heap.size v t→OtAt w w.heap.size v' t→Calls Tryz.prog 40 #[v,v'] w (YesBelow w)
def EqOMany (ts:List Ot):Prop:=∀ (A A':Option Addr) (c c':Nat) (w:World),OtsAt w w.heap.size A ts→OtsAt w w.heap.size A' ts→Calls Tryz.prog 85 #[.slice A ts.length c,.slice A' ts.length c'] w (YesBelow w)
set_option maxHeartbeats 1000000 in
theorem eqOptic_of (k n:Int) (nm:ByteArray) (ts:List Ot) (h:EqOMany ts):EqOOne (.mk k n nm ts):=by
 intro v v' w hv hv'
 obtain ⟨A,ac,rfl,hnm,ha⟩:=hv.open
 obtain ⟨A',ac',rfl,hnm',ha'⟩:=hv'.open
 simp only [Ot.kind,Ot.num,Ot.name,Ot.args] at *
 have HT:=Lib.hid h
 have hkk:(k != k)=false:=by simp
 have hnn:(n != n)=false:=by simp
 have hqq:(nm.toList == nm.toList)=true:=by simp
 clear hnm hnm' h hv hv'
 obtain ⟨hb0,p0,q0,hs0⟩:=boxes2 w 30 30 #[.int .i64 k,.string nm,.int .i64 n,.slice A ts.length ac] #[.int .i64 k,.string nm,.int .i64 n,.slice A' ts.length ac']
 have ha1:=ha.up hb0
 have ha2:=ha'.up hb0
 go_enter Tryz.func40,Tryz.ntmps40
 go_wp2_with fail
 generalize (w.alloc (.cells #[.int .i64 k,.string nm,.int .i64 n,.slice A ts.length ac] 30)).alloc (.cells #[.int .i64 k,.string nm,.int .i64 n,.slice A' ts.length ac'] 30)=w0 at *
 refine (HT.out _ _ _ _ w0 ha1 ha2).mono ?_
 rintro e w2 ⟨rfl,hb2⟩
 go_wp2
 go_ret
 exact ⟨rfl,hb0.trans (hb2.mono hb0.size)⟩
set_option maxHeartbeats 1000000 in
theorem eqOpticS_of (ts:List Ot) (hall:∀ i,(h:i<ts.length)→EqOOne ts[i]):EqOMany ts:=by
 intro A A' c c' w hA hA'
 have hm:=hA.1
 unfold maxLen at hm
 have HALL:=Lib.hid hall
 clear hall
 have hneq:((ts.length:Int) != ts.length)=false:=by simp
 go_enter Tryz.func85,Tryz.ntmps85
 go_wp2
 go_loopw [5] (fun i wr=>∃ k:Nat,k≤ts.length∧i=.int .i64 k∧Below w.heap.size w wr) (fun i _=>ts.length - (intOf i).toNat)
 case atStart=>exact ⟨0,Nat.zero_le _,rfl,Below.refl _ _⟩
 case round=>
  obtain ⟨k,hk,rfl,hb⟩:=hrel
  clear hneq
  by_cases hlt:k<ts.length
  ·obtain ⟨b,off,C,cc,rfl,hbl,q0,q1,q2,q3,ht⟩:=(hA.below hb).elem k hlt
   obtain ⟨b',off',C',cc',rfl,hbl',q0',q1',q2',q3',ht'⟩:=(hA'.below hb).elem k hlt
   have hbs:=hb.size
   have HT:=Lib.hid (HALL.out k hlt _ _ wr.drew ((ht.more hbs).up (Below.refl _ _).drew) ((ht'.more hbs).up (Below.refl _ _).drew))
   clear ht ht'
   go_wp2
   go_region_held3 (fun w'=>w'.cell? ⟨b,off+k * 4,none⟩=some (.int .i64 ts[k].kind)∧w'.cell? ⟨b,off+k * 4+2,none⟩=some (.int .i64 ts[k].num)∧w'.cell? ⟨b,off+k * 4+1,none⟩=some (.string ts[k].name)∧w'.cell? ⟨b,off+k * 4+3,none⟩=some (.slice C ts[k].args.length cc)∧w'.cell? ⟨b',off'+k * 4,none⟩=some (.int .i64 ts[k].kind)∧w'.cell? ⟨b',off'+k * 4+2,none⟩=some (.int .i64 ts[k].num)∧w'.cell? ⟨b',off'+k * 4+1,none⟩=some (.string ts[k].name)∧w'.cell? ⟨b',off'+k * 4+3,none⟩=some (.slice C' ts[k].args.length cc')∧Below wr.heap.size wr w') ((first | exact ⟨q0,q1,q2,q3,q0',q1',q2',q3',(Below.refl _ _).drew⟩ | exact ⟨k0,k1,k2,k3,k0',k1',k2',k3',kb⟩))
    (first | (go_at_call 40;refine HT.out.mono ?_;rintro e w' ⟨rfl,hb1⟩;have kb:=(Below.refl wr.heap.size wr).drew.trans hb1;have k0:=(kC kb q0 (by show b < _;omega));have k1:=(kC kb q1 (by show b < _;omega));have k2:=(kC kb q2 (by show b < _;omega));have k3:=(kC kb q3 (by show b < _;omega));have k0':=(kC kb q0' (by show b' < _;omega));have k1':=(kC kb q1' (by show b' < _;omega));have k2':=(kC kb q2' (by show b' < _;omega));have k3':=(kC kb q3' (by show b' < _;omega))))
   go_wp2
   go_roundw
   case rel=>exact ⟨k+1,by omega,by go_num,hb.trans (kb.mono hbs)⟩
   case measure=>simp [intOf];omega
  ·go_wp2
   go_ret
   exact ⟨rfl,hb⟩
theorem eqOptic_any (t:Ot):EqOOne t:=by
 induction t using Ot.ind with
 | h k n nm ts ih=>exact eqOptic_of k n nm ts (eqOpticS_of ts ih)
end
section
open Go.RowKit
def EqVOne (t:Va):Prop:=∀ (v v':Value) (w:World),VaAt w w.heap.size v t→VaAt w w.heap.size v' t→Calls Tryz.prog 41 #[v,v'] w (YesBelow w)
def EqVMany (ts:List Va):Prop:=∀ (A A':Option Addr) (c c':Nat) (w:World),VasAt w w.heap.size A ts→VasAt w w.heap.size A' ts→Calls Tryz.prog 38 #[.slice A ts.length c,.slice A' ts.length c'] w (YesBelow w)
set_option maxHeartbeats 1000000 in
theorem eqValue_of (k n:Int) (nm:ByteArray) (ls:List ByteArray) (ts:List Va) (h:EqVMany ts):EqVOne (.mk k n nm ls ts):=by
 intro v v' w hv hv'
 obtain ⟨L,lc,A,ac,rfl,hnm,hn,hz,hl,ha⟩:=hv.open
 obtain ⟨L',lc',A',ac',rfl,hnm',hn',hz',hl',ha'⟩:=hv'.open
 simp only [Va.kind,Va.num,Va.name,Va.labels,Va.args] at *
 have HN:=Lib.hid hn
 have HT:=Lib.hid h
 have hkk:(k != k)=false:=by simp
 have hnn:(n != n)=false:=by simp
 have hqq:(nm.toList == nm.toList)=true:=by simp
 clear hz hz' hn hn' hnm hnm' h hv hv'
 go_enter Tryz.func41,Tryz.ntmps41
 go_wp2_with fail
 obtain ⟨hb0,p0,q0,hs0⟩:=boxes2 w 41 41 #[.int .i64 k,.int .i64 n,.string nm,.slice L ls.length lc,.slice A ts.length ac] #[.int .i64 k,.int .i64 n,.string nm,.slice L' ls.length lc',.slice A' ts.length ac']
 generalize (w.alloc (.cells #[.int .i64 k,.int .i64 n,.string nm,.slice L ls.length lc,.slice A ts.length ac] 41)).alloc (.cells #[.int .i64 k,.int .i64 n,.string nm,.slice L' ls.length lc',.slice A' ts.length ac'] 41)=w0 at *
 have HZ:=Lib.hid hs0
 clear hs0
 refine (eqStringS_same _ _ _ _ _ _ ls w0 (hl.up' hb0) (hl'.up' hb0) HN.out).mono ?_
 rintro e w1 ⟨rfl,n1,rfl⟩
 have p1:=p0.drewN n1
 have q1:=q0.drewN n1
 have hb1:=hb0.trans ((drewN_below w0 n1).mono hb0.size)
 clear p0 q0
 generalize w0.drewN n1=w1 at *
 have c1:w1.cell? ⟨w.heap.size,4,none⟩=some (.slice A ts.length ac):=p1.cell 4
 have c2:w1.cell? ⟨w.heap.size+1,4,none⟩=some (.slice A' ts.length ac'):=q1.cell 4
 clear p1 q1
 go_wp2_with fail
 refine (HT.out _ _ _ _ w1 (ha.up hb1) (ha'.up hb1)).mono ?_
 rintro e w2 ⟨rfl,hb2⟩
 go_wp2
 go_ret
 exact ⟨rfl,hb1.trans (hb2.mono hb1.size)⟩
set_option maxHeartbeats 1000000 in
theorem eqValueS_of (ts:List Va) (hall:∀ i,(h:i<ts.length)→EqVOne ts[i]):EqVMany ts:=by
 intro A A' c c' w hA hA'
 have hm:=hA.1
 unfold maxLen at hm
 have HALL:=Lib.hid hall
 clear hall
 have hneq:((ts.length:Int) != ts.length)=false:=by simp
 go_enter Tryz.func38,Tryz.ntmps38
 go_wp2
 go_loopw [5] (fun i wr=>∃ k:Nat,k≤ts.length∧i=.int .i64 k∧Below w.heap.size w wr) (fun i _=>ts.length - (intOf i).toNat)
 case atStart=>exact ⟨0,Nat.zero_le _,rfl,Below.refl _ _⟩
 case round=>
  obtain ⟨k,hk,rfl,hb⟩:=hrel
  clear hneq
  by_cases hlt:k<ts.length
  ·obtain ⟨b,off,L,lc,C,cc,rfl,hbl,q0,q1,q2,q3,q4,ht⟩:=(hA.below hb).elem k hlt
   obtain ⟨b',off',L',lc',C',cc',rfl,hbl',q0',q1',q2',q3',q4',ht'⟩:=(hA'.below hb).elem k hlt
   have hbs:=hb.size
   have HT:=Lib.hid (HALL.out k hlt _ _ wr.drew ((ht.more hbs).up (Below.refl _ _).drew) ((ht'.more hbs).up (Below.refl _ _).drew))
   clear ht ht'
   go_wp2
   go_region_held3 (fun w'=>w'.cell? ⟨b,off+k * 5,none⟩=some (.int .i64 ts[k].kind)∧w'.cell? ⟨b,off+k * 5+1,none⟩=some (.int .i64 ts[k].num)∧w'.cell? ⟨b,off+k * 5+2,none⟩=some (.string ts[k].name)∧w'.cell? ⟨b,off+k * 5+3,none⟩=some (.slice L ts[k].labels.length lc)∧w'.cell? ⟨b,off+k * 5+4,none⟩=some (.slice C ts[k].args.length cc)∧w'.cell? ⟨b',off'+k * 5,none⟩=some (.int .i64 ts[k].kind)∧w'.cell? ⟨b',off'+k * 5+1,none⟩=some (.int .i64 ts[k].num)∧w'.cell? ⟨b',off'+k * 5+2,none⟩=some (.string ts[k].name)∧w'.cell? ⟨b',off'+k * 5+3,none⟩=some (.slice L' ts[k].labels.length lc')∧w'.cell? ⟨b',off'+k * 5+4,none⟩=some (.slice C' ts[k].args.length cc')∧Below wr.heap.size wr w') ((first | exact ⟨q0,q1,q2,q3,q4,q0',q1',q2',q3',q4',(Below.refl _ _).drew⟩ | exact ⟨k0,k1,k2,k3,k4,k0',k1',k2',k3',k4',kb⟩))
    (first | (go_at_call 41;refine HT.out.mono ?_;rintro e w' ⟨rfl,hb1⟩;have kb:=(Below.refl wr.heap.size wr).drew.trans hb1;have k0:=(kC kb q0 (by show b < _;omega));have k1:=(kC kb q1 (by show b < _;omega));have k2:=(kC kb q2 (by show b < _;omega));have k3:=(kC kb q3 (by show b < _;omega));have k4:=(kC kb q4 (by show b < _;omega));have k0':=(kC kb q0' (by show b' < _;omega));have k1':=(kC kb q1' (by show b' < _;omega));have k2':=(kC kb q2' (by show b' < _;omega));have k3':=(kC kb q3' (by show b' < _;omega));have k4':=(kC kb q4' (by show b' < _;omega))))
   go_wp2
   go_roundw
   case rel=>exact ⟨k+1,by omega,by go_num,hb.trans (kb.mono hbs)⟩
   case measure=>simp [intOf];omega
  ·go_wp2
   go_ret
   exact ⟨rfl,hb⟩
theorem eqValue_any (t:Va):EqVOne t:=by
 induction t using Va.ind with
 | h k n nm ls ts ih=>exact eqValue_of k n nm ls ts (eqValueS_of ts ih)
end
end Go.Proofs.YtfnblkcmcfofoaaGreatDoor
