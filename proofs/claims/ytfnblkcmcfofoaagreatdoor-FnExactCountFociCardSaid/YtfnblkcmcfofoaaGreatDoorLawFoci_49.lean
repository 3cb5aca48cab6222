/- Lemmas: SpecFociA. -/
import Derived.Test.YtfnblkcmcfofoaaGreatDoorLawFoci_21
import Derived.Test.YtfnblkcmcfofoaaGreatDoorLawFoci_46
import Derived.Deep.RegionHeldLaw
import Derived.Deep.DrawnRows

namespace Go.Proofs.YtfnblkcmcfofoaaGreatDoor
set_option maxRecDepth 100000
set_option linter.unusedSimpArgs false
open Go.RowKit
attribute [local go_sem ↓] Go.wp_at_zero Go.wp_at_succ
def NewL (us:List Va) (w:World) (e:Ending) (w':World):Prop:=VasPost (fun _=>False) us w e w'
theorem GotV.set {w:World} {base p o:Nat} {S:Nat→Prop} {v u:Value} {ts:List Va} (h:GotV w base S v ts) (hp:p<base) (hS:∀ b,S b→b≠p):GotV (w.setCell ⟨p,o,none⟩ u) base S v ts:=by
 obtain ⟨xs,vs,h⟩:=h
 have hk:∀ q,q≠p→(w.setCell ⟨p,o,none⟩ u).heap[q]?=w.heap[q]?:=fun q hq=>Below.heap_setCell _ _ _ _ hq
 exact ⟨xs,vs,own_keep5 h.own fun g hg=>hk g (by have:=(h.own.lt g hg).1;omega),h.cells,fun i hi=>(h.kids i hi).keep (fun b hb _=>hk b (hS b hb.1)) (by simp [World.setCell])⟩
theorem new_one {w w1:World} {a b c d e:Value} {u:Va} {v:Value} (hb:Below w.heap.size w w1) (h:VaIn w1 (Span w.heap.size w1.heap.size) (.agg #[a,b,c,d,e]) u) {base:Nat} (hbase:base≤w.heap.size) (hv:∀ g,v.ownBlock=some g→g<w.heap.size):
  VasR (w1.alloc (.cells #[a,b,c,d,e] 41)) (fun q=>base≤q∧v.ownBlock≠some q) (some ⟨w1.heap.size,0,none⟩) [u]:=
 (VasR.one (VaR.of_in h)).wide fun q hq _=>by
  have:=hb.size
  rcases hq with hq | hq
  ·exact ⟨by have:=hq.1;omega,fun e=>by have:=hv q e;have:=hq.1;omega⟩
  ·exact ⟨by omega,fun e=>by have:=hv q e;omega⟩
set_option maxHeartbeats 4000000 in
theorem specAll_any (us:List Va) (A:Option Addr) (c:Nat) (w:World) (ha:VasAt w w.heap.size A us) (hsz:szVas us≤1048576):
  Calls Tryz.prog 130 #[.slice A us.length c] w (NewL us w):=by
 have hle:=szVas_len us
 have hb0:=(Below.refl w.heap.size w).alloc (Nat.le_refl _) (.cells #[] 41)
 have hG0:GotV (w.alloc (.cells #[] 41)) w.heap.size (fun b=>w.heap.size≤b) (.slice (some ⟨w.heap.size,0,none⟩) 0 0) []:=GotV.lit (World.ownsRow_lit w #[] 0 (Nat.le_refl _) (Nat.zero_le _) rfl)
 go_enter Tryz.func130,Tryz.ntmps130
 go_wp2
 go_loopw [3,4] (fun z i wr=>∃ k:Nat,k≤us.length∧i=.int .i64 k∧GotV wr w.heap.size (fun b=>w.heap.size≤b) z (us.take k)∧Below w.heap.size w wr) (fun _ i _=>us.length - (intOf i).toNat)
 case atStart=>exact ⟨0,Nat.zero_le _,rfl,hG0,hb0⟩
 case round=>
  obtain ⟨k,hk,rfl,hga,hb⟩:=hrel
  have hbs:=hb.size
  by_cases hlt:k<us.length
  ·obtain ⟨b,off,M,mc,C,cc,rfl,hbl,e0,e1,e2,e3,e4,ht⟩:=(ha.below hb).elem k hlt
   have hpt:=szVa_part us k hlt
   have HT:=Lib.hid (specCopyV_any us[k] _ wr (ht.more hbs) (by omega))
   have HG:=Lib.hid hga
   have HB:=Lib.hid hb
   have HUS:=Lib.hid (show us.take (k+1)=us.take k++[us[k]] from List.take_succ_eq_append_getElem hlt)
   have hlen:(us.take k).length=k:=by simp;omega
   clear hga ht hb
   go_wp2_with fail
   refine HT.out.mono ?_
   rintro e w1 ⟨v1,rfl,ht1,hb1⟩
   have HT1:=Lib.hid ht1
   obtain ⟨T1,U1,T2,U2,_,rfl,_⟩:=ht1.open
   clear ht1 e0 e1 e2 e3 e4
   have hb2:=(Below.refl w1.heap.size w1).alloc (Nat.le_refl _) (.cells #[.int .i64 us[k].kind,.int .i64 us[k].num,.string us[k].name,.slice T1 us[k].labels.length U1,.slice T2 us[k].args.length U2] 41)
   have hb12:=hb1.trans (hb2.mono hb1.size)
   have hG:=HG.out.below hb12
   have hv:VasR _ (fun q=>w.heap.size≤q∧u3.ownBlock≠some q) _ [us[k]]:=new_one hb1 HT1.out hbs (fun g hg=>(HG.out.lt g hg).2)
   have HB12:=Lib.hid (HB.out.trans (hb12.mono hbs))
   have hs12:=HB12.out.size
   clear hb1 hb2 hb12
   go_wp2_with (at_builtin;refine wpList_append_got rfl (.tmp 12) (.tmp 18) rfl _ rfl hG (some ⟨w1.heap.size,0,none⟩) 1 1 rfl rfl hv (by simp;omega) hs12 ?_;intro v2 w2 hG2 hg2)
   have HG2:=Lib.hid hG2
   have HB2:=Lib.hid (HB12.out.grown hg2 hs12 (fun q hq=>(HG.out.lt q hq).1))
   clear hG2 hg2 hv hG
   go_wp2
   go_roundw
   case rel=>exact ⟨k+1,by omega,by go_num,by rw [HUS.out];exact HG2.out,HB2.out⟩
   case measure=>simp [intOf];omega
  ·have hke:k=us.length:=by omega
   subst hke
   rw [List.take_length] at hga
   obtain ⟨A2,c2,rfl⟩:=hga.form
   have HD:=Lib.hid (hga.done (S':=fun b=>False∨w.heap.size≤b) (by unfold maxLen;omega) (fun b hb=>.inr hb) (fun b hb=>.inr hb))
   have HB:=Lib.hid hb
   clear hga hb
   go_wp2
   go_ret
   exact ⟨A2,c2,rfl,HD.out,HB.out⟩
theorem GotV.done2 {w:World} {base:Nat} {S S':Nat→Prop} {A:Option Addr} {n c:Nat} {ts:List Va} (h:GotV w base S (.slice A n c) ts) (hn:n=ts.length) (hm:ts.length≤maxLen) (hS:∀ b,S b→S' b) (hb:∀ b,base≤b→S' b):VasR w S' A ts:=by
 subst hn
 exact h.done hm hS hb
theorem got_put {w wc wr W w2:World} {po base k c2:Nat} {A2:Option Addr} {z':Value} {us:List Va} (hpo:w.heap.size≤po) (hol:po<base) (hbase:base≤wr.heap.size) (hW:Below wr.heap.size wr W) (hg2:W.grownBy w2 (Value.slice A2 k c2).ownBlock) (hvb:∀ q,(Value.slice A2 k c2).ownBlock=some q→base≤q)
  (ho:Whole1 wr po 41 #[.int .i64 5,.int .i64 0,.string ⟨#[]⟩,.slice none 0 0,.slice A2 k c2]) (hG2:GotV w2 base (fun b=>base≤b) z' us) (hold:∀ q,q<base→q≠po→wr.heap[q]?=wc.heap[q]?) (hb:Below w.heap.size w wr):
  Whole1 (w2.setCell ⟨po,4,none⟩ z') po 41 #[.int .i64 5,.int .i64 0,.string ⟨#[]⟩,.slice none 0 0,z']∧GotV (w2.setCell ⟨po,4,none⟩ z') base (fun b=>base≤b) z' us∧(∀ q,q<base→q≠po→(w2.setCell ⟨po,4,none⟩ z').heap[q]?=wc.heap[q]?)∧Below w.heap.size w (w2.setCell ⟨po,4,none⟩ z')∧base≤(w2.setCell ⟨po,4,none⟩ z').heap.size:=by
 have hs1:=hW.size
 have hs2:=hg2.size
 have hw0:=hb.size
 have hkeep:∀ q,q<base→w2.heap[q]?=wr.heap[q]?:=fun q hq=>(hg2.block q (by omega) (fun e=>by have:=hvb q e.symm;omega)).trans (hW.block q (by omega))
 have ho2:Whole1 w2 po 41 #[.int .i64 5,.int .i64 0,.string ⟨#[]⟩,.slice none 0 0,.slice A2 k c2]:=(hkeep po hol).trans ho
 refine ⟨ho2.set 4 _,hG2.set hol (fun b hb=>by omega),fun q hq hqp=>?_,?_,?_⟩
 ·rw [Below.heap_setCell _ _ _ _ hqp,hkeep q hq]
  exact hold q hq hqp
 ·exact (((hb.trans (hW.mono hw0)).grown hg2 (by omega) (fun q hq=>by have:=hvb q hq;omega))).setCell hpo _
 ·simp [World.setCell]
  omega
theorem rev_take (l:List Va) (k j:Nat) (h:j<l.length) (hj:l.length - 1 - k=j) (hk:k<l.length):l.reverse.take (k+1)=l.reverse.take k++[l[j]]:=by
 rw [List.take_succ_eq_append_getElem (by simpa using hk),List.getElem_reverse]
 simp only [hj]
def TurnPost (v:Va) (w:World) (e:Ending) (w':World):Prop:=∃ A c,e=.returned (.agg #[.int .i64 5,.int .i64 0,.string ⟨#[]⟩,.slice none 0 0,.slice A v.args.length c])∧VasR w' (fun b=>w.heap.size≤b) A v.args.reverse∧Below w.heap.size w w'
set_option maxHeartbeats 8000000 in
theorem specTurned_any (v:Va) (vv:Value) (w:World) (hv:VaAt w w.heap.size vv v) (hsz:szVa v≤1048576):
  Calls Tryz.prog 170 #[vv] w (TurnPost v w):=by
 have hse:=szVa_eq v
 have hle:=szVas_len v.args
 obtain ⟨L,lc,A,ac,rfl,_,_,_,_,ha⟩:=hv.open
 obtain ⟨hb0,p0,q0,r0,hs0⟩:=boxes3 w 41 41 41 #[.int .i64 v.kind,.int .i64 v.num,.string v.name,.slice L v.labels.length lc,.slice A v.args.length ac] #[.int .i64 0,.int .i64 0,.string ⟨#[]⟩,.slice none 0 0,.slice none 0 0] #[.int .i64 5,.int .i64 0,.string ⟨#[]⟩,.slice none 0 0,.slice none 0 0]
 have HA:=Lib.hid ha
 have HB0:=Lib.hid hb0
 have hp0:=p0.lt
 clear hv ha hb0
 go_enter Tryz.func170,Tryz.ntmps170
 go_upto_region 2 with fail
 generalize ((w.alloc (.cells #[.int .i64 v.kind,.int .i64 v.num,.string v.name,.slice L v.labels.length lc,.slice A v.args.length ac] 41)).alloc (.cells #[.int .i64 0,.int .i64 0,.string ⟨#[]⟩,.slice none 0 0,.slice none 0 0] 41)).alloc (.cells #[.int .i64 5,.int .i64 0,.string ⟨#[]⟩,.slice none 0 0,.slice none 0 0] 41)=w0 at *
 have HZ:=Lib.hid hs0
 have hlo:w.heap.size+2<w0.heap.size:=by omega
 clear hs0
 have pv4:w0.cell? ⟨w.heap.size,4,none⟩=some (.slice A v.args.length ac):=p0.cell 4
 go_wp2
 go_loopw [4] (fun i wr=>∃ (k c2:Nat) (A2:Option Addr),k≤v.args.length∧i=.int .i64 ((v.args.length:Int) - 1 - (k:Int))∧Whole1 wr (w.heap.size+1+1) 41 #[.int .i64 5,.int .i64 0,.string ⟨#[]⟩,.slice none 0 0,.slice A2 k c2]∧GotV wr w0.heap.size (fun b=>w0.heap.size≤b) (.slice A2 k c2) (v.args.reverse.take k)∧(∀ q,q<w0.heap.size→q≠w.heap.size+1+1→wr.heap[q]?=w0.heap[q]?)∧Below w.heap.size w wr∧w0.heap.size≤wr.heap.size) (fun i _=>(intOf i+1).toNat)
 case atStart=>exact ⟨0,0,none,Nat.zero_le _,by simp,r0,GotV.start _ _ _,fun _ _ _=>rfl,HB0.out,Nat.le_refl _⟩
 case round=>
  obtain ⟨k,c2,A2,hk,rfl,ho,hga,hold,hb,hsz1⟩:=hrel
  have hpo:(w.heap.size+1+1)<w0.heap.size:=by omega
  have hp1:Whole1 wr w.heap.size 41 #[.int .i64 v.kind,.int .i64 v.num,.string v.name,.slice L v.labels.length lc,.slice A v.args.length ac]:=(hold _ hp0 (by omega)).trans p0
  have qv4:wr.cell? ⟨w.heap.size,4,none⟩=some (.slice A v.args.length ac):=hp1.cell 4
  by_cases hlt:k<v.args.length
  ·obtain ⟨j,hj⟩:∃ j:Nat,v.args.length - 1 - k=j:=⟨_,rfl⟩
   have hjl:j<v.args.length:=by omega
   have hji:(v.args.length:Int) - 1 - (k:Int)=(j:Int):=by omega
   rw [hji]
   have ha1:VasAt wr wr.heap.size A v.args:=(HA.out.below hb).more hb.size
   obtain ⟨b,off,M,mc,C,cc,rfl,hbl,e0,e1,e2,e3,e4,ht⟩:=ha1.elem j hjl
   have hpt:=szVa_part v.args j hjl
   have HT:=Lib.hid (specCopyV_any v.args[j] _ wr.drew (ht.up (Below.refl _ _).drew) (by omega))
   have HG:=Lib.hid hga
   have HO:=Lib.hid ho
   have HOLD:=Lib.hid hold
   have HB:=Lib.hid hb
   have HUS:=Lib.hid (rev_take v.args k j hjl hj hlt)
   have hlen:(v.args.reverse.take k).length=k:=by simp;omega
   have HLN:=Lib.hid (show (v.args.reverse.take k++[v.args[j]]).length=k+1 by simp;omega)
   have o4:wr.cell? ⟨w.heap.size+1+1,4,none⟩=some (.slice A2 k c2):=ho.cell 4
   have f4:wr.frozen? ⟨w.heap.size+1+1,4,none⟩=false:=ho.free 4
   have hpw:w.heap.size<wr.heap.size:=by omega
   have how:w.heap.size+1+1<wr.heap.size:=by omega
   clear hga ht hb ho hold hp1 ha1 hj
   go_wp2
   go_region_law (first
    | (go_simp;go_at_call 128;refine HT.out.mono ?_;rintro e w1 ⟨v1,rfl,ht1,hb1⟩;have HT1:=Lib.hid ht1;obtain ⟨T1,U1,T2,U2,_,rfl,_⟩:=ht1.open;clear ht1;have hb1':=(Below.refl wr.heap.size wr).drew.trans hb1;have hb2:=(Below.refl w1.heap.size w1).alloc (Nat.le_refl _) (.cells #[.int .i64 v.args[j].kind,.int .i64 v.args[j].num,.string v.args[j].name,.slice T1 v.args[j].labels.length U1,.slice T2 v.args[j].args.length U2] 41);have hb12:=hb1'.trans (hb2.mono hb1'.size);have y4:=(kC hb1' o4 how);have y5:=(kC hb12 o4 how);have hG:=HG.out.below hb12;have hv:VasR _ (fun q=>w0.heap.size≤q∧(Value.slice A2 k c2).ownBlock≠some q) _ [v.args[j]]:=new_one hb1' HT1.out hsz1 (fun g hg=>(HG.out.lt g hg).2))
    | (refine step_append_got (by rfl) (.tmp 15) (.tmp 22) (by rfl) _ (by rfl) hG (some ⟨w1.heap.size,0,none⟩) 1 1 rfl (by rfl) hv (by simp;omega) (by have:=hb12.size;omega) ?_;intro v2 w2 hG2 hg2;have hvb:=fun q hq=>(HG.out.lt q hq).1;have ho3:Whole1 w2 (w.heap.size+1+1) 41 #[.int .i64 5,.int .i64 0,.string ⟨#[]⟩,.slice none 0 0,.slice A2 k c2]:=((hg2.block (w.heap.size+1+1) (by have:=hb12.size;omega) (fun e=>by have:=hvb _ e.symm;omega)).trans (hb12.block (w.heap.size+1+1) how)).trans HO.out;have m4:w2.cell? ⟨w.heap.size+1+1,4,none⟩=some (.slice A2 k c2):=ho3.cell 4;have n4:w2.frozen? ⟨w.heap.size+1+1,4,none⟩=false:=ho3.free 4;obtain ⟨A3,c3,hv3⟩:=hG2.form;rw [HLN.out] at hv3;subst hv3;have HP:=Lib.hid (got_put (show w.heap.size≤w.heap.size+1+1 by omega) hpo hsz1 hb12 hg2 hvb HO.out hG2 HOLD.out HB.out);clear hG2 hg2 ho3 hb12 hvb hG hv))
   all_goals
    go_wp2
    go_roundw
    case rel=>exact ⟨k+1,c3,A3,by omega,by first | go_num | (simp;omega),HP.out.1,by rw [HUS.out];exact HP.out.2.1,HP.out.2.2.1,HP.out.2.2.2.1,HP.out.2.2.2.2⟩
    case measure=>simp [intOf]
  ·have hke:k=v.args.length:=by omega
   subst hke
   rw [show v.args.reverse.take v.args.length=v.args.reverse by rw [List.take_of_length_le];simp] at hga
   have HD:=Lib.hid (hga.done2 (S':=fun b=>w0.heap.size≤b) (by simp) (by simp [maxLen];omega) (fun b hb=>hb) (fun b hb=>hb))
   have q1:Whole1 wr (w.heap.size+1) 41 #[.int .i64 0,.int .i64 0,.string ⟨#[]⟩,.slice none 0 0,.slice none 0 0]:=(hold _ (by omega) (by omega)).trans q0
   have HB:=Lib.hid hb
   obtain ⟨o0,o1,o2,o3,o4⟩:=ho.c5
   obtain ⟨d0,d1,d2,d3,d4⟩:=q1.c5
   obtain ⟨g0,g1,g2,g3,g4⟩:=q1.f5
   have hneg:¬ ((v.args.length:Int) - 1 - (v.args.length:Int)≥0):=by omega
   have hneg2:¬ (0≤(v.args.length:Int) - 1 - (v.args.length:Int)):=by omega
   clear hga hb ho hold q1
   go_wp2
   refine bodyPost_ret (v:=.agg #[.int .i64 5,.int .i64 0,.string ⟨#[]⟩,.slice none 0 0,.slice A2 v.args.length c2]) (by simp [results,Tryz.results170,go_sem,d0,d1,d2,d3,d4]) rfl ⟨_,_,rfl,?_,?_⟩
   ·have hk':∀ q,q≠w.heap.size+1→(((((wr.setCell ⟨w.heap.size+1,0,none⟩ (.int .i64 5)).setCell ⟨w.heap.size+1,1,none⟩ (.int .i64 0)).setCell ⟨w.heap.size+1,2,none⟩ (.string ⟨#[]⟩)).setCell ⟨w.heap.size+1,3,none⟩ (.slice none 0 0)).setCell ⟨w.heap.size+1,4,none⟩ (.slice A2 v.args.length c2)).heap[q]?=wr.heap[q]?:=fun q hq=>by
     rw [Below.heap_setCell _ _ _ _ hq,Below.heap_setCell _ _ _ _ hq,Below.heap_setCell _ _ _ _ hq,Below.heap_setCell _ _ _ _ hq,Below.heap_setCell _ _ _ _ hq]
    exact (HD.out.keep (fun b hb _=>hk' b (by omega)) (by simp [World.setCell])).wide fun b hb _=>(by omega)
   ·exact ((((HB.out.setCell (p:=⟨w.heap.size+1,0,none⟩) (Nat.le_succ _) _).setCell (p:=⟨w.heap.size+1,1,none⟩) (Nat.le_succ _) _).setCell (p:=⟨w.heap.size+1,2,none⟩) (Nat.le_succ _) _).setCell (p:=⟨w.heap.size+1,3,none⟩) (Nat.le_succ _) _).setCell (p:=⟨w.heap.size+1,4,none⟩) (Nat.le_succ _) _
end Go.Proofs.YtfnblkcmcfofoaaGreatDoor
