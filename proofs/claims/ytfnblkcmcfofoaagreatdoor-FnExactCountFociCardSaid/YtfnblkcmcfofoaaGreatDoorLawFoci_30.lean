/- Lemmas: ImplVCopy, TypLib. -/
import Derived.Test.YtfnblkcmcfofoaaGreatDoorLawFoci_21
import Derived.Test.YtfnblkcmcfofoaaGreatDoorLawFoci_29
import Derived.Deep.AppendLies
import Derived.Deep.RegionHeld3
import Derived.Deep.DrawnRows
import Derived.Test.YtfnblkcmcfofoaaGreatDoorLawFoci_16
import Derived.Test.YtfnblkcmcfofoaaGreatDoorLawFoci_24

namespace Go.Proofs.YtfnblkcmcfofoaaGreatDoor
section
set_option maxRecDepth 100000
open Go.RowKit
attribute [local go_sem ↓] Go.wp_at_zero Go.wp_at_succ
def ListVas (w:World) (ts:List Va) (e:Ending) (w':World):Prop:=∃ A c,e=.returned (.slice A ts.length c)∧VasIn w' (Span w.heap.size w'.heap.size) A ts∧Below w.heap.size w w'
def CopyVTwo (t:Va):Prop:=∀ (v:Value) (w:World),VaAt w w.heap.size v t→szVa t≤1048576→Calls Tryz.prog 69 #[v] w (NewVa w t)
set_option maxHeartbeats 4000000 in
theorem mappedCopy_of (ts:List Va) (hall:∀ i,(h:i<ts.length)→CopyVTwo ts[i]) (A:Option Addr) (c:Nat) (w:World) (ha:VasAt w w.heap.size A ts) (hsz:szVas ts≤1048576):
  Calls Tryz.prog 67 #[.slice A ts.length c,.func (.func 69) #[] #[]] w (ListVas w ts):=by
 have hm:=ha.1
 unfold maxLen at hm
 have HALL:=Lib.hid hall
 obtain ⟨i1,hi1,hy0,hy1,hy2⟩:=info_parts infoValue
 have hle:=szVas_len ts
 clear hall
 go_enter Tryz.func67,Tryz.ntmps67
 go_wp2
 go_loopw [5,10] (fun v i wr=>∃ k:Nat,k≤ts.length∧i=.int .i64 k∧VGather wr w.heap.size v k ts∧Below w.heap.size w wr) (fun _ i _=>ts.length - (intOf i).toNat)
 case atStart=>exact ⟨0,Nat.zero_le _,rfl,VGather.start _ _ _,Below.refl _ _⟩
 case round=>
  obtain ⟨k,hk,rfl,hga,hb⟩:=hrel
  have hbs:=hb.size
  by_cases hlt:k<ts.length
  ·obtain ⟨b,off,M,mc,C,cc,rfl,hbl,e0,e1,e2,e3,e4,ht⟩:=(ha.below hb).elem k hlt
   have hpt:=szVa_part ts k hlt
   have hbx:=(Below.refl wr.heap.size wr).alloc (Nat.le_refl _) (.cells #[.int .i64 ts[k].kind,.int .i64 ts[k].num,.string ts[k].name,.slice M ts[k].labels.length mc,.slice C ts[k].args.length cc] 41)
   have HT:=Lib.hid (HALL.out k hlt _ _ ((ht.more hbs).up hbx) (by omega))
   obtain ⟨xs,vs,lo,hi',hG0⟩:=hga.below hbx
   have HG:=Lib.hid hG0
   have HOWN:=Lib.hid hG0.own
   have hbx':=hb.trans (hbx.mono hbs)
   have hsx:=hbx'.size
   have HBX:=Lib.hid hbx'
   clear hga hG0 ht hbx hbx' hb
   go_wp2_with fail
   generalize wr.alloc (.cells #[.int .i64 ts[k].kind,.int .i64 ts[k].num,.string ts[k].name,.slice M ts[k].labels.length mc,.slice C ts[k].args.length cc] 41)=wx at *
   refine HT.out.mono ?_
   rintro e w1 ⟨v1,rfl,ht1,hb1⟩
   have HT1:=Lib.hid ht1
   obtain ⟨T1,U1,T2,U2,_,rfl,_⟩:=ht1.open
   clear ht1 e0 e1 e2 e3 e4
   have hs1:=hb1.size
   have hown1:=(own_keep5 HOWN.out fun g hg=>hb1.block g (HOWN.out.lt g hg).2).alloc (.cells #[.int .i64 ts[k].kind,.int .i64 ts[k].num,.string ts[k].name,.slice T1 ts[k].labels.length U1,.slice T2 ts[k].args.length U2] 41)
   have hnews:=news5 w1 41 (.int .i64 ts[k].kind) (.int .i64 ts[k].num) (.string ts[k].name) (.slice T1 ts[k].labels.length U1) (.slice T2 ts[k].args.length U2)
   have HB1:=Lib.hid hb1
   clear hb1
   go_wp2_with (at_builtin;refine wpList_append_lies _ rfl (.tmp 14) (.tmp 18) _ rfl w.heap.size 41 i1 (.agg #[.int .i64 0,.int .i64 0,.string ⟨#[]⟩,.slice none 0 0,.slice none 0 0]) 5 80 Tryz.underlying39 hi1 hy0 hy1 hy2 rfl (by decide) _ k xs rfl hown1 ⟨w1.heap.size,0,none⟩ 1 1 [.int .i64 ts[k].kind,.int .i64 ts[k].num,.string ts[k].name,.slice T1 ts[k].labels.length U1,.slice T2 ts[k].args.length U2] rfl rfl hnews.1 hnews.2 (by omega) (by unfold maxLen;omega) (by omega) (by simp;omega) (w1.heap.size+1) (by simp) ?_;intro g cap w3 hown3 hg3 hat3 hlt3)
   have HOWN3:=Lib.hid hown3
   have HG3:=Lib.hid hg3
   have HAT:=Lib.hid hat3
   clear hown3 hg3 hat3 hown1 hnews
   go_wp2
   go_roundw
   case rel=>
    refine ⟨k+1,by omega,by go_num,HG.out.step HB1.out (by omega) hlt HT1.out HOWN3.out HG3.out HAT.out,?_⟩
    have hvb:=fun g hg=>(HOWN.out.lt g hg).1
    exact ((HBX.out.trans (HB1.out.mono hsx)).alloc (by omega) _).grown HG3.out (by simp;omega) hvb
   case measure=>simp [intOf];omega
  ·have hke:k=ts.length:=by omega
   subst hke
   obtain ⟨A2,c2,rfl⟩:∃ A2 c2,u5=.slice A2 ts.length c2:=by
    obtain ⟨xs,vs,lo,hi',hG⟩:=hga
    rcases hG.own.2 with ⟨h1,h2⟩ | ⟨g,cap,cur,h1,_⟩
    ·exact ⟨none,0,by rw [h1,h2]⟩
    ·exact ⟨_,_,h1⟩
   have hdone:=Lib.hid (hga.done (by unfold maxLen;omega))
   have HB:=Lib.hid hb
   clear hga hb
   go_wp2
   go_ret
   exact ⟨A2,c2,rfl,hdone.out,HB.out⟩
set_option maxHeartbeats 4000000 in
theorem copyValue_of (k0 n0:Int) (nm:ByteArray) (ls:List ByteArray) (ts:List Va) (hall:∀ i,(h:i<ts.length)→CopyVTwo ts[i]):CopyVTwo (.mk k0 n0 nm ls ts):=by
 intro v w hv hsz
 obtain ⟨L,lc,A,ac,rfl,hnm,hn,hz,hl,ha⟩:=hv.open
 rw [szVa_eq] at hsz
 simp only [Va.kind,Va.num,Va.name,Va.labels,Va.args] at *
 have hls:∀ i,(h:i<ls.length)→ls[i].size≤1048576:=fun i h=>by have:=size_le_sumSizes ls i h;omega
 have hcp:=Lib.hid (fun W h=>copyNames_any L lc ls W h (by omega) hls)
 have HCL:=Lib.hid (fun W=>clone_any nm W (by omega))
 have HMP:=Lib.hid (fun W h=>mappedCopy_of ts hall A ac W h (by omega))
 have HN:=Lib.hid hz
 have HNN:=Lib.hid hn
 have HNM:=Lib.hid hnm
 clear hall hz hv hls hn hnm
 obtain ⟨hb0,p0,r0,hs0⟩:=boxes2 w 41 41 #[.int .i64 k0,.int .i64 n0,.string nm,.slice L ls.length lc,.slice A ts.length ac] #[.int .i64 0,.int .i64 0,.string ⟨#[]⟩,.slice none 0 0,.slice none 0 0]
 have ha0:=Lib.hid (ha.up hb0)
 have hl0:=Lib.hid (hl.up' hb0)
 clear ha hl
 go_enter Tryz.func69,Tryz.ntmps69
 go_upto_region 1 with fail
 generalize (w.alloc (.cells #[.int .i64 k0,.int .i64 n0,.string nm,.slice L ls.length lc,.slice A ts.length ac] 41)).alloc (.cells #[.int .i64 0,.int .i64 0,.string ⟨#[]⟩,.slice none 0 0,.slice none 0 0] 41)=w0 at *
 have HZ:=Lib.hid hs0
 have hlo:w.heap.size+1≤w0.heap.size:=by omega
 obtain ⟨c0,c1,c2,c3,c4⟩:=p0.c5
 have j0:=dC c0
 have j1:=dC c1
 have j2:=dC c2
 have j3:=dC c3
 have j4:=dC c4
 have KS:=Lib.hid (fun (x:World) (hx:Below (w.heap.size+1) w0 x)=>(show x.cell? ⟨w.heap.size,0,none⟩=some (.int .i64 k0)∧x.cell? ⟨w.heap.size,1,none⟩=some (.int .i64 n0)∧x.cell? ⟨w.heap.size,2,none⟩=some (.string nm)∧x.cell? ⟨w.heap.size,3,none⟩=some (.slice L ls.length lc)∧x.cell? ⟨w.heap.size,4,none⟩=some (.slice A ts.length ac) from
  ⟨kC hx c0 (Nat.lt_succ_self _),kC hx c1 (Nat.lt_succ_self _),kC hx c2 (Nat.lt_succ_self _),kC hx c3 (Nat.lt_succ_self _),kC hx c4 (Nat.lt_succ_self _)⟩))
 have hD:=(Below.refl w0.heap.size w0).drew
 have HR:=Lib.hid r0
 clear hs0 r0 p0
 go_region_held3 (fun x:World=>x.cell? ⟨w.heap.size,0,none⟩=some (.int .i64 k0)∧x.cell? ⟨w.heap.size,1,none⟩=some (.int .i64 n0)∧x.cell? ⟨w.heap.size,2,none⟩=some (.string nm)∧x.cell? ⟨w.heap.size,3,none⟩=some (.slice L ls.length lc)∧x.cell? ⟨w.heap.size,4,none⟩=some (.slice A ts.length ac))
  (first | (with_reducible exact ⟨j0,j1,j2,j3,j4⟩) | (with_reducible exact KS.out _ (hA.mono hlo)) | (with_reducible exact KS.out _ (hB.mono hlo)) | (with_reducible exact KS.out _ (hC.mono hlo)) | (with_reducible exact KS.out _ hS))
  (first
   | (go_at_call 127;(with_reducible refine (HCL.out _).mono ?_);rintro e wA ⟨rfl,hA'⟩;have hA:=hD.trans hA';have HAA:=Lib.hid hA)
   | (go_at_call 103;(with_reducible refine (hcp.out _ (hl0.out.up' hA)).mono ?_);rintro e wB ⟨vn,rfl,hownC,hB'⟩;obtain ⟨A1,c1',rfl,hrow⟩:=own_form (ss:=ls) hownC rfl;have hB:=hA.trans (hB'.mono hA.size))
   | (go_at_call 67;(with_reducible refine (HMP.out _ (ha0.out.up hB)).mono ?_);rintro e wC ⟨A2,c2',rfl,hvC,hC'⟩;have hC:=hB.trans (hC'.mono hB.size);have rC:=HR.out.below hC HR.out.lt;obtain ⟨d0,d1,d2,d3,d4⟩:=rC.c5;obtain ⟨f0,f1,f2,f3,f4⟩:=rC.f5;have hS:=(((((hC.mono hlo).setCell (p:=⟨w.heap.size+1,0,none⟩) (Nat.le_refl _) (.int .i64 k0)).setCell (p:=⟨w.heap.size+1,1,none⟩) (Nat.le_refl _) (.int .i64 n0)).setCell (p:=⟨w.heap.size+1,2,none⟩) (Nat.le_refl _) (.string nm)).setCell (p:=⟨w.heap.size+1,3,none⟩) (Nat.le_refl _) (.slice A1 ls.length c1')).setCell (p:=⟨w.heap.size+1,4,none⟩) (Nat.le_refl _) (.slice A2 ts.length c2')))
 have HRow:=Lib.hid hrow
 have HVC:=Lib.hid hvC
 have HC':=Lib.hid hC'
 have HBB:=Lib.hid hB
 have HBC:=Lib.hid hC
 clear hrow hvC hownC hA hA' hB hB' hC hC' hS rC
 go_wp2
 refine bodyPost_ret (v:=.agg #[.int .i64 k0,.int .i64 n0,.string nm,.slice A1 ls.length c1',.slice A2 ts.length c2']) (by simp [results,Tryz.results69,go_sem,d0,d1,d2,d3,d4]) rfl ⟨_,rfl,?_,?_⟩
 ·have hS:(((((wC.setCell ⟨w.heap.size+1,0,none⟩ (.int .i64 k0)).setCell ⟨w.heap.size+1,1,none⟩ (.int .i64 n0)).setCell ⟨w.heap.size+1,2,none⟩ (.string nm)).setCell ⟨w.heap.size+1,3,none⟩ (.slice A1 ls.length c1')).setCell ⟨w.heap.size+1,4,none⟩ (.slice A2 ts.length c2')).heap.size=wC.heap.size:=by simp [World.setCell]
  have hk':∀ q,q≠w.heap.size+1→(((((wC.setCell ⟨w.heap.size+1,0,none⟩ (.int .i64 k0)).setCell ⟨w.heap.size+1,1,none⟩ (.int .i64 n0)).setCell ⟨w.heap.size+1,2,none⟩ (.string nm)).setCell ⟨w.heap.size+1,3,none⟩ (.slice A1 ls.length c1')).setCell ⟨w.heap.size+1,4,none⟩ (.slice A2 ts.length c2')).heap[q]?=wC.heap[q]?:=fun q hq=>by
   rw [Below.heap_setCell _ _ _ _ hq,Below.heap_setCell _ _ _ _ hq,Below.heap_setCell _ _ _ _ hq,Below.heap_setCell _ _ _ _ hq,Below.heap_setCell _ _ _ _ hq]
  rw [hS]
  have hzz:=HZ.out
  have hsB:=HBB.out.size
  have hsC:=HC'.out.size
  have hD2:=HVC.out.keep (w':=(((((wC.setCell ⟨w.heap.size+1,0,none⟩ (.int .i64 k0)).setCell ⟨w.heap.size+1,1,none⟩ (.int .i64 n0)).setCell ⟨w.heap.size+1,2,none⟩ (.string nm)).setCell ⟨w.heap.size+1,3,none⟩ (.slice A1 ls.length c1')).setCell ⟨w.heap.size+1,4,none⟩ (.slice A2 ts.length c2'))) fun b hb' _=>hk' b (by have:=hb'.1;omega)
  rcases HRow.out with hl0' | ⟨g,hA1,hg0,hrg⟩
  ·exact VaIn.of (t:=.mk k0 n0 nm ls ts) (gl:=0) HNM.out HNN.out HN.out (.inl hl0') hD2 fun b hb'=>⟨⟨by have:=hb'.1;omega,by have:=hb'.2;omega⟩,by have:=hb'.1;omega⟩
  ·have hgl:=hrg.lt
   have hg1:w0.heap.size≤g:=by have h1:wA.heap.size≤g:=hg0;have h2:=HAA.out.size;omega
   exact VaIn.of (t:=.mk k0 n0 nm ls ts) (gl:=g) HNM.out HNN.out HN.out (.inr ⟨hA1,⟨by omega,by omega⟩,hrg.same ((hk' g (by omega)).trans (HC'.out.block g hgl))⟩) hD2 fun b hb'=>⟨⟨by have:=hb'.1;omega,by have:=hb'.2;omega⟩,by have:=hb'.1;omega⟩
 ·have hbA:=hb0.trans (HBC.out.mono hb0.size)
  exact ((((hbA.setCell (p:=⟨w.heap.size+1,0,none⟩) (Nat.le_succ _) _).setCell (p:=⟨w.heap.size+1,1,none⟩) (Nat.le_succ _) _).setCell (p:=⟨w.heap.size+1,2,none⟩) (Nat.le_succ _) _).setCell (p:=⟨w.heap.size+1,3,none⟩) (Nat.le_succ _) _).setCell (p:=⟨w.heap.size+1,4,none⟩) (Nat.le_succ _) _
theorem copyValue_any (t:Va):CopyVTwo t:=by
 induction t using Va.ind with
 | h k n nm ls ts ih=>exact copyValue_of k n nm ls ts ih
theorem mappedCopy_any (ts:List Va) (A:Option Addr) (c:Nat) (w:World) (ha:VasAt w w.heap.size A ts) (hsz:szVas ts≤1048576):
  Calls Tryz.prog 67 #[.slice A ts.length c,.func (.func 69) #[] #[]] w (ListVas w ts):=
 mappedCopy_of ts (fun i h=>copyValue_any ts[i]) A c w ha hsz
end
section
set_option maxRecDepth 100000
open Go.RowKit
theorem tyRow_one {W:World} {g:Nat} {a b c:Value} (hw:Whole1 W g 27 #[a,b,c]):ElemRow 3 27 W g 1 (fun _=>.agg #[a,b,c]):=by
 refine ⟨_,hw,fun i hi j hj=>?_⟩
 obtain rfl:i=0:=by omega
 have h4:j=0∨j=1∨j=2:=by omega
 rcases h4 with rfl | rfl | rfl<;>exact ⟨rfl,rfl⟩
def OwnA (N:Nat→Prop) (w:World) (v:Value) (t:Ty):Prop:=∃ S,TyIn w S v t∧∀ b,S b→b<w.heap.size∧¬ N b
theorem OwnA.own {N:Nat→Prop} {w:World} {v:Value} {t:Ty} (h:OwnA N w v t):OwnT w v t:=by
 obtain ⟨S,h1,h2⟩:=h
 exact ⟨S,h1,fun b hb=>(h2 b hb).1⟩
theorem OwnT.any {w:World} {v:Value} {t:Ty} (h:OwnT w v t):OwnA (fun _=>False) w v t:=by
 obtain ⟨S,h1,h2⟩:=h
 exact ⟨S,h1,fun b hb=>⟨h2 b hb,id⟩⟩
theorem OwnA.up {N:Nat→Prop} {w w':World} {v:Value} {t:Ty} (h:OwnA N w v t) (hb:Below w.heap.size w w'):OwnA N w' v t:=by
 obtain ⟨S,h1,h2⟩:=h
 exact ⟨S,h1.keep fun b _ hl=>hb.block b hl,fun b hb'=>⟨Nat.lt_of_lt_of_le (h2 b hb').1 hb.size,(h2 b hb').2⟩⟩
theorem OwnA.less {N N':Nat→Prop} {w:World} {v:Value} {t:Ty} (h:OwnA N w v t) (hN:∀ b,N' b→N b):OwnA N' w v t:=by
 obtain ⟨S,h1,h2⟩:=h
 exact ⟨S,h1,fun b hb=>⟨(h2 b hb).1,fun hn=>(h2 b hb).2 (hN b hn)⟩⟩
theorem OwnA.late {N:Nat→Prop} {w:World} {v:Value} {t:Ty} (h:OwnA N w v t) (z:Nat) (hz:w.heap.size≤z):OwnA (fun b=>N b∨b=z) w v t:=by
 obtain ⟨S,h1,h2⟩:=h
 exact ⟨S,h1,fun b hb=>⟨(h2 b hb).1,fun hn=>hn.elim (h2 b hb).2 fun e=>by have:=(h2 b hb).1;omega⟩⟩
theorem OwnA.of_in {N:Nat→Prop} {w:World} {lo:Nat} {v:Value} {t:Ty} (h:TyIn w (Span lo w.heap.size) v t) (hN:∀ b,N b→b<lo):OwnA N w v t:=
 ⟨_,h,fun b hb=>⟨hb.2,fun hn=>by have:=hN b hn;have:=hb.1;omega⟩⟩
theorem OwnA.open {N:Nat→Prop} {w:World} {v:Value} {t:Ty} (h:OwnA N w v t):∃ L lc A ac,v=.agg #[.int .i64 t.kind,.slice L t.labels.length lc,.slice A t.args.length ac]:=by
 obtain ⟨L,lc,A,ac,hv,_⟩:=h.own.open
 exact ⟨L,lc,A,ac,hv⟩
theorem OwnA.elem {N:Nat→Prop} {w:World} {a:Value} {L A:Option Addr} {n lc m ac:Nat} {t:Ty} (h:OwnA N w (.agg #[a,.slice L n lc,.slice A m ac]) t) (i:Nat) (hi:i<t.args.length):
  ∃ g L' lc' A' ac',A=some ⟨g,0,none⟩∧g<w.heap.size∧w.cell? ⟨g,i * 3,none⟩=some (.int .i64 t.args[i].kind)∧w.cell? ⟨g,i * 3+1,none⟩=some (.slice L' t.args[i].labels.length lc')∧
   w.cell? ⟨g,i * 3+2,none⟩=some (.slice A' t.args[i].args.length ac')∧OwnA N w (.agg #[.int .i64 t.args[i].kind,.slice L' t.args[i].labels.length lc',.slice A' t.args[i].args.length ac']) t.args[i]:=by
 obtain ⟨S,h1,hS⟩:=h
 obtain ⟨L0,lc0,A0,ac0,gl,hveq,_,_,_,ha⟩:=h1.open
 simp only [Value.agg.injEq,Array.mk.injEq,List.cons.injEq,Value.slice.injEq,and_true] at hveq
 obtain ⟨_,_,rfl,_,_⟩:=hveq
 obtain ⟨_,ga,vs,Ss,hes,hsub,_,hks⟩:=ha
 rcases hes with hes | ⟨rfl,h5,h6⟩
 ·rw [hes] at hi
  exact absurd hi (by simp)
 ·obtain ⟨L',lc',A',ac',hv⟩:=(OwnA.open (N:=N) ⟨_,hks i hi,fun b hb=>hS b (hsub i hi b hb).1.1⟩)
  have e0:=h6.cell i 0 hi (by omega)
  have e1:=h6.cell i 1 hi (by omega)
  have e2:=h6.cell i 2 hi (by omega)
  rw [hv] at e0 e1 e2
  have hk:=hks i hi
  rw [hv] at hk
  exact ⟨ga,L',lc',A',ac',rfl,(hS _ h5.1).1,e0,e1,e2,_,hk,fun b hb=>hS b (hsub i hi b hb).1.1⟩
theorem list_own {N:Nat→Prop} {w W:World} {g ac:Nat} {k:Int} {a b c:Value} {t:Ty} (h:OwnA N w (.agg #[a,b,c]) t) (hN:∀ q,N q→q<w.heap.size) (hb:Below w.heap.size w W) (hg:w.heap.size≤g) (hw:Whole1 W g 27 #[a,b,c]):
  OwnA N W (.agg #[.int .i64 k,.slice none 0 0,.slice (some ⟨g,0,none⟩) 1 ac]) (.mk k [] [t]):=by
 obtain ⟨S0,h3,h4⟩:=h
 have h5:TyIn W S0 (.agg #[a,b,c]) t:=h3.keep fun q hq hl=>hb.block q hl
 refine ⟨fun q=>S0 q∨q=g,?_,fun q hq=>?_⟩
 ·refine TyIn.mk (k:=k) (ls:=[]) (ts:=[t]) (g+1) g (fun _=>.agg #[a,b,c]) (fun _=>S0) (Nat.zero_le _) (fun i hi=>absurd hi (by simp)) (by simp [maxLen]) (.inl rfl) (.inr ⟨rfl,.inr rfl,tyRow_one hw⟩) (by omega) (fun i hi q hq=>⟨.inl hq,by have:=(h4 q hq).1;omega,by have:=(h4 q hq).1;omega⟩) (fun i j hi hj hij=>absurd hij (by simp only [List.length_cons,List.length_nil] at hi hj;omega)) (fun i hi=>?_)
  obtain rfl:i=0:=by simp only [List.length_cons,List.length_nil] at hi;omega
  exact h5
 ·rcases hq with hq | rfl
  ·exact ⟨Nat.lt_of_lt_of_le (h4 q hq).1 hb.size,(h4 q hq).2⟩
  ·exact ⟨hw.lt,fun hn=>by have:=hN _ hn;omega⟩
theorem wrap_own {N:Nat→Prop} {w W:World} {gl ga lc ac:Nat} {k:Int} {nm:ByteArray} {a b c:Value} {t:Ty} (h:OwnA N w (.agg #[a,b,c]) t) (hN:∀ q,N q→q<w.heap.size) (hb:Below w.heap.size w W) (hl:w.heap.size≤gl) (hg:w.heap.size≤ga) (hne:gl≠ga) (hnm:nm.size≤maxLen)
  (hwl:Whole1 W gl 9 #[.string nm]) (hw:Whole1 W ga 27 #[a,b,c]):
  OwnA N W (.agg #[.int .i64 k,.slice (some ⟨gl,0,none⟩) 1 lc,.slice (some ⟨ga,0,none⟩) 1 ac]) (.mk k [nm] [t]):=by
 obtain ⟨S0,h3,h4⟩:=h
 have h5:TyIn W S0 (.agg #[a,b,c]) t:=h3.keep fun q hq hl=>hb.block q hl
 refine ⟨fun q=>S0 q∨q=ga∨q=gl,?_,fun q hq=>?_⟩
 ·refine TyIn.mk (k:=k) (ls:=[nm]) (ts:=[t]) gl ga (fun _=>.agg #[a,b,c]) (fun _=>S0) (by simp [maxLen]) (fun i hi=>?_) (by simp [maxLen]) (.inr ⟨rfl,.inr (.inr rfl),RowStrs.of_whole hwl⟩) (.inr ⟨rfl,.inr (.inl rfl),tyRow_one hw⟩) hne (fun i hi q hq=>⟨.inl hq,by have:=(h4 q hq).1;omega,by have:=(h4 q hq).1;omega⟩) (fun i j hi hj hij=>absurd hij (by simp only [List.length_cons,List.length_nil] at hi hj;omega)) (fun i hi=>?_)
  ·obtain rfl:i=0:=by simp only [List.length_cons,List.length_nil] at hi;omega
   exact hnm
  ·obtain rfl:i=0:=by simp only [List.length_cons,List.length_nil] at hi;omega
   exact h5
 ·rcases hq with hq | rfl | rfl
  ·exact ⟨Nat.lt_of_lt_of_le (h4 q hq).1 hb.size,(h4 q hq).2⟩
  ·exact ⟨hw.lt,fun hn=>by have:=hN _ hn;omega⟩
  ·exact ⟨hwl.lt,fun hn=>by have:=hN _ hn;omega⟩
def noTy:Ty:=.mk 0 [] []
theorem noTy_own (N:Nat→Prop) (w:World):OwnA N w (.agg #[.int .i64 0,.slice none 0 0,.slice none 0 0]) noTy:=
 ⟨fun _=>False,TyIn.mk (k:=0) (ls:=[]) (ts:=[]) 0 1 (fun _=>.bool false) (fun _ _=>False) (Nat.zero_le _) (fun i h=>absurd h (by simp)) (Nat.zero_le _) (.inl rfl) (.inl rfl) (by omega) (fun i hi=>absurd hi (by simp)) (fun i _ hi=>absurd hi (by simp)) (fun i hi=>absurd hi (by simp)),fun _ h=>h.elim⟩
def TypPost (N:Nat→Prop) (u:Value) (r:Option (Ty×Int)) (w:World) (e:Ending) (w':World):Prop:=
 ∃ L lc A ac t kd x,e=.returned (.tuple #[.agg #[.int .i64 t.kind,.slice L t.labels.length lc,.slice A t.args.length ac,.int .i64 kd],x])∧OwnA N w' (.agg #[.int .i64 t.kind,.slice L t.labels.length lc,.slice A t.args.length ac]) t∧Below w.heap.size w w'∧szTy t≤2000∧((r=none∧x=u)∨(r=some (t,kd)∧x=.nilIface))
theorem set4_heap (W:World) (z q:Nat) (hq:q≠z) (a b c d:Value):((((W.setCell ⟨z,0,none⟩ a).setCell ⟨z,1,none⟩ b).setCell ⟨z,2,none⟩ c).setCell ⟨z,3,none⟩ d).heap[q]?=W.heap[q]?:=by
 rw [Below.heap_setCell _ _ _ _ hq,Below.heap_setCell _ _ _ _ hq,Below.heap_setCell _ _ _ _ hq,Below.heap_setCell _ _ _ _ hq]
theorem OwnA.set {N:Nat→Prop} {W:World} {z:Nat} {v:Value} {t:Ty} (h:OwnA (fun b=>N b∨b=z) W v t) (a b c d:Value):OwnA N ((((W.setCell ⟨z,0,none⟩ a).setCell ⟨z,1,none⟩ b).setCell ⟨z,2,none⟩ c).setCell ⟨z,3,none⟩ d) v t:=by
 obtain ⟨S,h1,h2⟩:=h
 refine ⟨S,h1.keep fun q hq _=>set4_heap W z q (fun e=>(h2 q hq).2 (.inr e)) a b c d,fun q hq=>⟨?_,fun hn=>(h2 q hq).2 (.inl hn)⟩⟩
 have:=(h2 q hq).1
 simpa [World.setCell] using this
theorem set4_below {w W:World} {z:Nat} (hz:w.heap.size≤z) (hb:Below w.heap.size w W) (a b c d:Value):Below w.heap.size w ((((W.setCell ⟨z,0,none⟩ a).setCell ⟨z,1,none⟩ b).setCell ⟨z,2,none⟩ c).setCell ⟨z,3,none⟩ d):=
 (((hb.setCell (p:=⟨z,0,none⟩) hz _).setCell (p:=⟨z,1,none⟩) hz _).setCell (p:=⟨z,2,none⟩) hz _).setCell (p:=⟨z,3,none⟩) hz _
theorem OwnA.drew {N:Nat→Prop} {W:World} {v:Value} {t:Ty} (h:OwnA N W v t):OwnA N W.drew v t:=h.up (Below.refl _ _).drew
theorem typ_fin {N:Nat→Prop} {u:Value} {r:Option (Ty×Int)} {w W:World} {z lc ac:Nat} {L A:Option Addr} {x:Value} {t:Ty} {kd:Int} (hz:w.heap.size≤z) (hb:Below w.heap.size w W) (hv:OwnA (fun b=>N b∨b=z) W (.agg #[.int .i64 t.kind,.slice L t.labels.length lc,.slice A t.args.length ac]) t) (hs:szTy t≤2000) (ho:(r=none∧x=u)∨(r=some (t,kd)∧x=.nilIface)) (a b c d:Value):
  TypPost N u r w (.returned (.tuple #[.agg #[.int .i64 t.kind,.slice L t.labels.length lc,.slice A t.args.length ac,.int .i64 kd],x])) ((((W.setCell ⟨z,0,none⟩ a).setCell ⟨z,1,none⟩ b).setCell ⟨z,2,none⟩ c).setCell ⟨z,3,none⟩ d):=
 ⟨L,lc,A,ac,t,kd,x,rfl,hv.set a b c d,set4_below hz hb a b c d,hs,ho⟩
theorem typ_drew {N:Nat→Prop} {u:Value} {r:Option (Ty×Int)} {w W:World} {e:Ending} (h:TypPost N u r w e W):TypPost N u r w e W.drew:=by
 obtain ⟨L,lc,A,ac,t,kd,x,h1,h2,h3,h4,h5⟩:=h
 exact ⟨L,lc,A,ac,t,kd,x,h1,h2.drew,h3.drew,h4,h5⟩
theorem typ_none {N:Nat→Prop} {u:Value} {r:Option (Ty×Int)} {w W:World} (hb:Below w.heap.size w W) (hr:r=none):
  TypPost N u r w (.returned (.tuple #[.agg #[.int .i64 0,.slice none 0 0,.slice none 0 0,.int .i64 0],u])) W.drew:=
 typ_drew ⟨none,0,none,0,noTy,0,u,rfl,noTy_own _ _,hb,by simp [noTy,szTy_eq,Ty.labels,Ty.args,sumSizes,szTys],.inl ⟨hr,rfl⟩⟩
theorem typ_none4 {N:Nat→Prop} {u:Value} {r:Option (Ty×Int)} {w W:World} {z:Nat} (hz:w.heap.size≤z) (hb:Below w.heap.size w W) (hr:r=none) (a b c d:Value):
  TypPost N u r w (.returned (.tuple #[.agg #[.int .i64 0,.slice none 0 0,.slice none 0 0,.int .i64 0],u])) ((((W.setCell ⟨z,0,none⟩ a).setCell ⟨z,1,none⟩ b).setCell ⟨z,2,none⟩ c).setCell ⟨z,3,none⟩ d):=
 typ_fin (t:=noTy) hz hb (noTy_own _ _) (by simp [noTy,szTy_eq,Ty.labels,Ty.args,sumSizes,szTys]) (.inl ⟨hr,rfl⟩) a b c d
theorem typ_none0 {N:Nat→Prop} {u:Value} {r:Option (Ty×Int)} {w W:World} (hb:Below w.heap.size w W) (hr:r=none):
  TypPost N u r w (.returned (.tuple #[.agg #[.int .i64 0,.slice none 0 0,.slice none 0 0,.int .i64 0],u])) W:=
 ⟨none,0,none,0,noTy,0,u,rfl,noTy_own _ _,hb,by simp [noTy,szTy_eq,Ty.labels,Ty.args,sumSizes,szTys],.inl ⟨hr,rfl⟩⟩
def UnfitAt (w:World) (u:Value):Prop:=0<w.heap.size∧w.cell? ⟨0,0,none⟩=some u∧∃ a,u=.iface 246 (.pointer (some a))
theorem UnfitAt.below {w w':World} {u:Value} (h:UnfitAt w u) (hb:Below w.heap.size w w'):UnfitAt w' u:=⟨Nat.lt_of_lt_of_le h.1 hb.size,kC hb h.2.1 h.1,h.2.2⟩
theorem boxes4 (w:World) (t1 t2 t3 t4:TypeId) (a b c d:Array Value):
  Below w.heap.size w ((((w.alloc (.cells a t1)).alloc (.cells b t2)).alloc (.cells c t3)).alloc (.cells d t4))∧Whole1 ((((w.alloc (.cells a t1)).alloc (.cells b t2)).alloc (.cells c t3)).alloc (.cells d t4)) w.heap.size t1 a∧
  Whole1 ((((w.alloc (.cells a t1)).alloc (.cells b t2)).alloc (.cells c t3)).alloc (.cells d t4)) (w.heap.size+1) t2 b∧Whole1 ((((w.alloc (.cells a t1)).alloc (.cells b t2)).alloc (.cells c t3)).alloc (.cells d t4)) (w.heap.size+1+1) t3 c∧
  Whole1 ((((w.alloc (.cells a t1)).alloc (.cells b t2)).alloc (.cells c t3)).alloc (.cells d t4)) (w.heap.size+1+1+1) t4 d:=by
 obtain ⟨h1,h2,h3,h4⟩:=boxes2 w t1 t2 a b
 obtain ⟨g1,g2,g3,g4⟩:=boxes2 ((w.alloc (.cells a t1)).alloc (.cells b t2)) t3 t4 c d
 refine ⟨h1.trans (g1.mono h1.size),h2.below g1 h2.lt,h3.below g1 h3.lt,?_,?_⟩
 ·have:=g2
  rwa [h4] at this
 ·have:=g3
  rwa [h4] at this
end
end Go.Proofs.YtfnblkcmcfofoaaGreatDoor
