/- Lemmas: ImplPart. -/
import Derived.Test.YtfnblkcmcfofoaaGreatDoorLawFoci_31
import Derived.Test.YtfnblkcmcfofoaaGreatDoorLawFoci_32

namespace Go.Proofs.YtfnblkcmcfofoaaGreatDoor
set_option maxRecDepth 100000
open Go.RowKit
def LabPost (r:Option Ty) (w:World) (e:Ending) (w':World):Prop:=
 ∃ v,e=.returned (.tuple #[v,.bool r.isSome])∧TyIn w' (Span w.heap.size w'.heap.size) v (r.getD zeroTy)∧Below w.heap.size w w'
set_option maxHeartbeats 1000000 in
theorem labelled_no (ls:List ByteArray) (l:ByteArray) (L A:Option Addr) (lc ac n:Nat) (w:World) (hl:StrsAt w w.heap.size L ls) (hn:ls.length≤maxLen) (hi:idxOf ls l<0):
  Calls Tryz.prog 208 #[.slice L ls.length lc,.slice A n ac,.string l] w (LabPost none w):=by
 have hb0:=(Below.refl w.heap.size w).alloc (Nat.le_refl _) (.cells #[.int .i64 0,.slice none 0 0,.slice none 0 0] 27)
 have HI:=Lib.hid (implIndexOf_any L lc w.heap.size ls l _ (hl.below hb0) hn)
 clear hl
 go_enter Tryz.func208,Tryz.ntmps208
 go_wp2_with fail
 refine HI.out.mono ?_
 rintro e w1 ⟨rfl,rfl⟩
 go_wp2
 refine bodyPost_ret (v:=.tuple #[.agg #[.int .i64 0,.slice none 0 0,.slice none 0 0],.bool false]) (by simp [results,Tryz.results208,go_sem]) rfl ⟨_,rfl,zero_in _ _,hb0⟩
set_option maxHeartbeats 1000000 in
theorem labelled_yes (ls:List ByteArray) (l:ByteArray) (ts:List Ty) (L A:Option Addr) (lc ac:Nat) (w:World) (hl:StrsAt w w.heap.size L ls) (hn:ls.length≤maxLen) (ha:TysAt w w.heap.size A ts) (hsz:szTys ts≤1048576) (k:Nat) (hi:idxOf ls l=k) (hk:k<ts.length):
  Calls Tryz.prog 208 #[.slice L ls.length lc,.slice A ts.length ac,.string l] w (LabPost (some ts[k]) w):=by
 have hm:=ha.1
 unfold maxLen at hm
 have hb0:=(Below.refl w.heap.size w).alloc (Nat.le_refl _) (.cells #[.int .i64 0,.slice none 0 0,.slice none 0 0] 27)
 have hr0:=Whole1.new w 27 #[.int .i64 0,.slice none 0 0,.slice none 0 0]
 have HI:=Lib.hid (implIndexOf_any L lc w.heap.size ls l _ (hl.below hb0) hn)
 have ha0:=ha.up hb0
 rw [hi] at HI
 have i0:¬ (k:Int)<0:=by omega
 have i1:(k:Int)<(ts.length:Int):=by omega
 have hpt:=szTy_part ts k hk
 have hs0:(w.alloc (.cells #[.int .i64 0,.slice none 0 0,.slice none 0 0] 27)).heap.size=w.heap.size+1:=by simp
 clear hl ha hi
 go_enter Tryz.func208,Tryz.ntmps208
 go_wp2_with fail
 generalize w.alloc (.cells #[.int .i64 0,.slice none 0 0,.slice none 0 0] 27)=w0 at *
 refine HI.out.mono ?_
 rintro e w1 ⟨rfl,rfl⟩
 obtain ⟨b,off,M,mc,C,cc,rfl,hbl,e0,e1,e2,_,_,_,_,ht⟩:=ha0.elem k hk
 have HC:=Lib.hid (copyType_any ts[k] _ w0 ht (by omega))
 have HS:=Lib.hid hs0
 clear ht ha0 HI hs0
 go_wp2_with fail
 refine HC.out.mono ?_
 rintro e w2 ⟨v,rfl,ht2,hb2⟩
 have HT:=Lib.hid ht2
 obtain ⟨T1,U1,T2,U2,_,rfl,_⟩:=ht2.open
 have hr2:=hr0.below hb2 hr0.lt
 obtain ⟨d0,d1,d2⟩:=hr2.c3
 obtain ⟨f0,f1,f2⟩:=hr2.f3
 have HB:=Lib.hid (hb0.trans (hb2.mono hb0.size))
 clear ht2 hr2 hr0 e0 e1 e2
 go_wp2
 refine bodyPost_ret (v:=.tuple #[.agg #[.int .i64 ts[k].kind,.slice T1 ts[k].labels.length U1,.slice T2 ts[k].args.length U2],.bool true]) (by simp [results,Tryz.results208,go_sem,d0,d1,d2]) rfl ⟨_,rfl,?_,?_⟩
 ·have hs:=HS.out
  refine TyIn.wide (S:=Span w0.heap.size w2.heap.size) (HT.out.keep fun q hq _=>?_) fun q hq=>⟨by have:=hq.1;omega,by have:=hq.2;simp [World.setCell];omega⟩
  have hne:q≠w.heap.size:=by have:=hq.1;omega
  rw [Below.heap_setCell _ _ _ _ hne,Below.heap_setCell _ _ _ _ hne,Below.heap_setCell _ _ _ _ hne]
 ·exact ((HB.out.setCell (p:=⟨w.heap.size,0,none⟩) (Nat.le_refl _) _).setCell (p:=⟨w.heap.size,1,none⟩) (Nat.le_refl _) _).setCell (p:=⟨w.heap.size,2,none⟩) (Nat.le_refl _) _
theorem labelled_any (t:Ty) (hvb:validB t=true) (l:ByteArray) (L A:Option Addr) (lc ac:Nat) (w:World) (hl:StrsAt w w.heap.size L t.labels) (hn:t.labels.length≤maxLen) (ha:TysAt w w.heap.size A t.args) (hsz:szTys t.args≤1048576):
  Calls Tryz.prog 208 #[.slice L t.labels.length lc,.slice A t.args.length ac,.string l] w (LabPost (partB t l) w):=by
 by_cases hi:idxOf t.labels l<0
 ·rw [partB_none t l (.inr hi)]
  exact labelled_no t.labels l L A lc ac _ w hl hn hi
 ·obtain ⟨k,h1,h2,h3⟩:=partB_some t l hvb (by omega)
  rw [h3]
  exact labelled_yes t.labels l t.args L A lc ac w hl hn ha hsz k h1 h2
theorem ta_intForm_recForm (x:Value) (w:World):(Instr.typeAssert (.iface 177 x) 174 180 true).run Tryz.prog w=.ok (.tuple #[.agg #[.slice none 0 0,.slice none 0 0],.bool false]) w:=by kernel_rfl
theorem ta_intForm_sumForm (x:Value) (w:World):(Instr.typeAssert (.iface 177 x) 174 182 true).run Tryz.prog w=.ok (.tuple #[.agg #[.slice none 0 0,.slice none 0 0],.bool false]) w:=by kernel_rfl
theorem ta_boolForm_recForm (x:Value) (w:World):(Instr.typeAssert (.iface 178 x) 174 180 true).run Tryz.prog w=.ok (.tuple #[.agg #[.slice none 0 0,.slice none 0 0],.bool false]) w:=by kernel_rfl
theorem ta_boolForm_sumForm (x:Value) (w:World):(Instr.typeAssert (.iface 178 x) 174 182 true).run Tryz.prog w=.ok (.tuple #[.agg #[.slice none 0 0,.slice none 0 0],.bool false]) w:=by kernel_rfl
theorem ta_recForm_recForm (x:Value) (w:World):(Instr.typeAssert (.iface 180 x) 174 180 true).run Tryz.prog w=.ok (.tuple #[x,.bool true]) w:=by kernel_rfl
theorem ta_recForm_sumForm (x:Value) (w:World):(Instr.typeAssert (.iface 180 x) 174 182 true).run Tryz.prog w=.ok (.tuple #[.agg #[.slice none 0 0,.slice none 0 0],.bool false]) w:=by kernel_rfl
theorem ta_sumForm_recForm (x:Value) (w:World):(Instr.typeAssert (.iface 182 x) 174 180 true).run Tryz.prog w=.ok (.tuple #[.agg #[.slice none 0 0,.slice none 0 0],.bool false]) w:=by kernel_rfl
theorem ta_sumForm_sumForm (x:Value) (w:World):(Instr.typeAssert (.iface 182 x) 174 182 true).run Tryz.prog w=.ok (.tuple #[x,.bool true]) w:=by kernel_rfl
theorem ta_listForm_recForm (x:Value) (w:World):(Instr.typeAssert (.iface 184 x) 174 180 true).run Tryz.prog w=.ok (.tuple #[.agg #[.slice none 0 0,.slice none 0 0],.bool false]) w:=by kernel_rfl
theorem ta_listForm_sumForm (x:Value) (w:World):(Instr.typeAssert (.iface 184 x) 174 182 true).run Tryz.prog w=.ok (.tuple #[.agg #[.slice none 0 0,.slice none 0 0],.bool false]) w:=by kernel_rfl
theorem OwnT.parts {w:World} {a:Value} {L A:Option Addr} {n lc m ac:Nat} {t:Ty} (h:OwnT w (.agg #[a,.slice L n lc,.slice A m ac]) t):StrsAt w w.heap.size L t.labels∧TysAt w w.heap.size A t.args:=by
 obtain ⟨L',lc',A',ac',hv,_,_,hl,ha⟩:=h.open
 simp at hv
 obtain ⟨_,⟨rfl,_⟩,rfl,_⟩:=hv
 exact ⟨hl,ha.here⟩
theorem valid_node (t:Ty) (h:validB t=true):nodeB t.kind t.labels t.args.length=true:=by
 cases t with
 | mk k ls ts=>
  unfold validB at h
  simp only [Bool.and_eq_true] at h
  have h2:=h.2
  rw [formTy,Bool.and_eq_true] at h2
  exact h2.2
theorem idxOf_nil (ls:List ByteArray) (l:ByteArray) (h:ls=[]):idxOf ls l<0:=by
 subst h
 unfold idxOf
 simp
set_option maxHeartbeats 4000000 in
theorem implPart_any (t:Ty) (l:ByteArray) (v:Value) (w:World) (hv:OwnT w v t) (hsz:szTy t≤1048576):Calls Tryz.prog 194 #[v,.string l] w (PartPost t l w):=by
 have hval:=Lib.hid (fun V W h=>implValid_any t V W h hsz)
 have hse:=szTy_eq t
 obtain ⟨L,lc,A,ac,rfl,hn,_,_,_⟩:=hv.open
 obtain ⟨hb0,p0,r0,hs0⟩:=boxes2 w 27 27 #[.int .i64 t.kind,.slice L t.labels.length lc,.slice A t.args.length ac] #[.int .i64 0,.slice none 0 0,.slice none 0 0]
 have hv0:=hv.up hb0
 have HS0:=Lib.hid hs0
 have HN:=Lib.hid hn
 clear hv hs0 hn
 go_enter Tryz.func194,Tryz.ntmps194
 go_wp2_with fail
 generalize (w.alloc (.cells #[.int .i64 t.kind,.slice L t.labels.length lc,.slice A t.args.length ac] 27)).alloc (.cells #[.int .i64 0,.slice none 0 0,.slice none 0 0] 27)=w0 at *
 refine (hval.out _ w0 hv0).mono ?_
 rintro e w1 ⟨rfl,hb1⟩
 have hb1':=hb0.trans (hb1.mono hb0.size)
 have p1:=p0.below hb1 p0.lt
 have r1:=r0.below hb1 r0.lt
 have hv1:=hv0.up hb1
 cases hvb:validB t
 ·have hr:=Lib.hid (partB_none t l (.inl hvb))
  obtain ⟨d0,d1,d2⟩:=r1.c3
  obtain ⟨f0,f1,f2⟩:=r1.f3
  clear hvb p1 r1 hv1
  go_wp2
  refine bodyPost_ret (v:=.tuple #[.agg #[.int .i64 0,.slice none 0 0,.slice none 0 0],.bool false]) (by simp [results,Tryz.results194,go_sem,d0,d1,d2]) rfl ⟨_,by rw [hr.out];rfl,?_,?_⟩
  ·rw [hr.out]
   exact zero_in _ _
  ·exact ((hb1'.setCell (p:=⟨w.heap.size+1,0,none⟩) (Nat.le_succ _) _).setCell (p:=⟨w.heap.size+1,1,none⟩) (Nat.le_succ _) _).setCell (p:=⟨w.heap.size+1,2,none⟩) (Nat.le_succ _) _
 ·have HVB:=Lib.hid hvb
  clear hvb
  obtain ⟨c0,c1,c2⟩:=p1.c3
  have HF:=Lib.hid (formOf_any t.kind t.labels t.args L A lc ac w1 (by cases t;exact hv1.here) (by unfold maxLen;omega))
  go_wp2_with fail
  refine HF.out.mono ?_
  rintro e w2 ⟨fv,rfl,hfv,hb2⟩
  have hb2':=hb1'.trans (hb2.mono hb1'.size)
  have r2:=r1.below hb2 r1.lt
  have hv2:=hv1.up hb2
  have hnode:=valid_node t HVB.out
  clear HF p1 r1 c0 c1 c2 hv1 hv0
  rcases hfv with ⟨h0,_⟩ | ⟨_,hfv⟩
  ·rw [hnode] at h0
   cases h0
  ·rcases hfv with ⟨hk,hts,rfl⟩ | ⟨hk,hts,rfl⟩ | ⟨hk,rfl⟩ | ⟨hk,rfl⟩ | ⟨hk,a,b,c,t1,hts,ht,rfl⟩
   ·have hr:=Lib.hid (partB_none t l (.inr (idxOf_nil t.labels l (by simp [node1 _ _ _ (.inl hk)] at hnode;exact hnode.1))))
    have ha1:=ta_intForm_recForm
    have ha2:=ta_intForm_sumForm
    obtain ⟨d0,d1,d2⟩:=r2.c3
    obtain ⟨f0,f1,f2⟩:=r2.f3
    clear hnode r2 hv2 hts
    go_wp2
    refine bodyPost_ret (v:=.tuple #[.agg #[.int .i64 0,.slice none 0 0,.slice none 0 0],.bool false]) (by simp [results,Tryz.results194,go_sem,d0,d1,d2]) rfl ⟨_,by rw [hr.out];rfl,?_,?_⟩
    ·rw [hr.out]
     exact zero_in _ _
    ·exact ((hb2'.setCell (p:=⟨w.heap.size+1,0,none⟩) (Nat.le_succ _) _).setCell (p:=⟨w.heap.size+1,1,none⟩) (Nat.le_succ _) _).setCell (p:=⟨w.heap.size+1,2,none⟩) (Nat.le_succ _) _
   ·have hr:=Lib.hid (partB_none t l (.inr (idxOf_nil t.labels l (by simp [node1 _ _ _ (.inr hk)] at hnode;exact hnode.1))))
    have ha1:=ta_boolForm_recForm
    have ha2:=ta_boolForm_sumForm
    obtain ⟨d0,d1,d2⟩:=r2.c3
    obtain ⟨f0,f1,f2⟩:=r2.f3
    clear hnode r2 hv2 hts
    go_wp2
    refine bodyPost_ret (v:=.tuple #[.agg #[.int .i64 0,.slice none 0 0,.slice none 0 0],.bool false]) (by simp [results,Tryz.results194,go_sem,d0,d1,d2]) rfl ⟨_,by rw [hr.out];rfl,?_,?_⟩
    ·rw [hr.out]
     exact zero_in _ _
    ·exact ((hb2'.setCell (p:=⟨w.heap.size+1,0,none⟩) (Nat.le_succ _) _).setCell (p:=⟨w.heap.size+1,1,none⟩) (Nat.le_succ _) _).setCell (p:=⟨w.heap.size+1,2,none⟩) (Nat.le_succ _) _
   ·have ha1:=ta_recForm_recForm
    have ha2:=ta_recForm_sumForm
    have hbx:=(Below.refl w2.heap.size w2).alloc (Nat.le_refl _) (.cells #[.slice L t.labels.length lc,.slice A t.args.length ac] 180)
    have hv3:=(hv2.up hbx).parts
    have HLB:=Lib.hid (labelled_any t HVB.out l L A lc ac _ hv3.1 HN.out hv3.2 (by omega))
    have r3:=r2.below hbx r2.lt
    have HBX:=Lib.hid (hb2'.trans (hbx.mono hb2'.size))
    clear hnode r2 hv2 hv3 hbx
    go_wp2_with fail
    generalize w2.alloc (.cells #[.slice L t.labels.length lc,.slice A t.args.length ac] 180)=w3 at *
    refine HLB.out.mono ?_
    rintro e w4 ⟨v4,rfl,ht4,hb4⟩
    have HT4:=Lib.hid ht4
    obtain ⟨T1,U1,T2,U2,_,rfl,_⟩:=ht4.open
    have r4:=r3.below hb4 r3.lt
    have hb4':=HBX.out.trans (hb4.mono HBX.out.size)
    have hs3:w.heap.size+1<w3.heap.size:=r3.lt
    obtain ⟨d0,d1,d2⟩:=r4.c3
    obtain ⟨f0,f1,f2⟩:=r4.f3
    generalize hrr:partB t l=rr at *
    have HRR:=Lib.hid hrr
    clear ht4 r3 r4 hb4 hrr
    go_wp2
    refine bodyPost_ret (v:=.tuple #[.agg #[.int .i64 (rr.getD zeroTy).kind,.slice T1 (rr.getD zeroTy).labels.length U1,.slice T2 (rr.getD zeroTy).args.length U2],.bool rr.isSome]) (by simp [results,Tryz.results194,go_sem,d0,d1,d2]) rfl ⟨_,by rw [HRR.out],?_,?_⟩
    ·rw [HRR.out]
     refine TyIn.wide (S:=Span w3.heap.size w4.heap.size) (HT4.out.keep fun q hq _=>?_) fun q hq=>⟨by have:=hq.1;omega,by have:=hq.2;simp [World.setCell];omega⟩
     have hne:q≠w.heap.size+1:=by have:=hq.1;omega
     rw [Below.heap_setCell _ _ _ _ hne,Below.heap_setCell _ _ _ _ hne,Below.heap_setCell _ _ _ _ hne]
    ·exact ((hb4'.setCell (p:=⟨w.heap.size+1,0,none⟩) (Nat.le_succ _) _).setCell (p:=⟨w.heap.size+1,1,none⟩) (Nat.le_succ _) _).setCell (p:=⟨w.heap.size+1,2,none⟩) (Nat.le_succ _) _
   ·have ha1:=ta_sumForm_recForm
    have ha2:=ta_sumForm_sumForm
    have hbx:=(Below.refl w2.heap.size w2).alloc (Nat.le_refl _) (.cells #[.slice L t.labels.length lc,.slice A t.args.length ac] 182)
    have hv3:=(hv2.up hbx).parts
    have HLB:=Lib.hid (labelled_any t HVB.out l L A lc ac _ hv3.1 HN.out hv3.2 (by omega))
    have r3:=r2.below hbx r2.lt
    have HBX:=Lib.hid (hb2'.trans (hbx.mono hb2'.size))
    clear hnode r2 hv2 hv3 hbx
    go_wp2_with fail
    generalize w2.alloc (.cells #[.slice L t.labels.length lc,.slice A t.args.length ac] 182)=w3 at *
    refine HLB.out.mono ?_
    rintro e w4 ⟨v4,rfl,ht4,hb4⟩
    have HT4:=Lib.hid ht4
    obtain ⟨T1,U1,T2,U2,_,rfl,_⟩:=ht4.open
    have r4:=r3.below hb4 r3.lt
    have hb4':=HBX.out.trans (hb4.mono HBX.out.size)
    have hs3:w.heap.size+1<w3.heap.size:=r3.lt
    obtain ⟨d0,d1,d2⟩:=r4.c3
    obtain ⟨f0,f1,f2⟩:=r4.f3
    generalize hrr:partB t l=rr at *
    have HRR:=Lib.hid hrr
    clear ht4 r3 r4 hb4 hrr
    go_wp2
    refine bodyPost_ret (v:=.tuple #[.agg #[.int .i64 (rr.getD zeroTy).kind,.slice T1 (rr.getD zeroTy).labels.length U1,.slice T2 (rr.getD zeroTy).args.length U2],.bool rr.isSome]) (by simp [results,Tryz.results194,go_sem,d0,d1,d2]) rfl ⟨_,by rw [HRR.out],?_,?_⟩
    ·rw [HRR.out]
     refine TyIn.wide (S:=Span w3.heap.size w4.heap.size) (HT4.out.keep fun q hq _=>?_) fun q hq=>⟨by have:=hq.1;omega,by have:=hq.2;simp [World.setCell];omega⟩
     have hne:q≠w.heap.size+1:=by have:=hq.1;omega
     rw [Below.heap_setCell _ _ _ _ hne,Below.heap_setCell _ _ _ _ hne,Below.heap_setCell _ _ _ _ hne]
    ·exact ((hb4'.setCell (p:=⟨w.heap.size+1,0,none⟩) (Nat.le_succ _) _).setCell (p:=⟨w.heap.size+1,1,none⟩) (Nat.le_succ _) _).setCell (p:=⟨w.heap.size+1,2,none⟩) (Nat.le_succ _) _
   ·have hr:=Lib.hid (partB_none t l (.inr (idxOf_nil t.labels l (by simp [node5 _ _ _ hk] at hnode;exact hnode.1))))
    have ha1:=ta_listForm_recForm
    have ha2:=ta_listForm_sumForm
    obtain ⟨d0,d1,d2⟩:=r2.c3
    obtain ⟨f0,f1,f2⟩:=r2.f3
    clear hnode r2 hv2 hts ht
    go_wp2
    refine bodyPost_ret (v:=.tuple #[.agg #[.int .i64 0,.slice none 0 0,.slice none 0 0],.bool false]) (by simp [results,Tryz.results194,go_sem,d0,d1,d2]) rfl ⟨_,by rw [hr.out];rfl,?_,?_⟩
    ·rw [hr.out]
     exact zero_in _ _
    ·exact ((hb2'.setCell (p:=⟨w.heap.size+1,0,none⟩) (Nat.le_succ _) _).setCell (p:=⟨w.heap.size+1,1,none⟩) (Nat.le_succ _) _).setCell (p:=⟨w.heap.size+1,2,none⟩) (Nat.le_succ _) _
end Go.Proofs.YtfnblkcmcfofoaaGreatDoor
