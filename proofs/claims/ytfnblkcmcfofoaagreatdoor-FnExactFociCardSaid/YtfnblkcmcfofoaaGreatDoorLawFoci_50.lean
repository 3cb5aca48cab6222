/- Lemmas: SpecFociB. -/
import Derived.Test.YtfnblkcmcfofoaaGreatDoorLawFoci_21
import Derived.Test.YtfnblkcmcfofoaaGreatDoorLawFoci_49
import Derived.Deep.RegionHeld3
import Derived.Deep.DrawnRows

namespace Go.Proofs.YtfnblkcmcfofoaaGreatDoor
set_option maxRecDepth 100000
set_option linter.unusedSimpArgs false
open Go.RowKit
attribute [local go_sem ↓] Go.wp_at_zero Go.wp_at_succ
def OneP (u:Va) (w:World) (e:Ending) (w':World):Prop:=∃ x,e=.returned x∧VaR w' (fun b=>w.heap.size≤b) x u∧Below w.heap.size w w'
theorem set5_heap (W:World) (z q:Nat) (hq:q≠z) (a b c d e:Value):(((((W.setCell ⟨z,0,none⟩ (a)).setCell ⟨z,1,none⟩ (b)).setCell ⟨z,2,none⟩ (c)).setCell ⟨z,3,none⟩ (d)).setCell ⟨z,4,none⟩ (e)).heap[q]?=W.heap[q]?:=by
 rw [Below.heap_setCell _ _ _ _ hq,Below.heap_setCell _ _ _ _ hq,Below.heap_setCell _ _ _ _ hq,Below.heap_setCell _ _ _ _ hq,Below.heap_setCell _ _ _ _ hq]
theorem one_ret {w W:World} {z:Nat} {x:Value} {u:Va} {S:Nat→Prop} (hz:w.heap.size≤z) (hB:Below w.heap.size w W) (hv:VaR W S x u) (hS:∀ b,S b→w.heap.size≤b∧b≠z) (a b c d e:Value):
  OneP u w (.returned x) (((((W.setCell ⟨z,0,none⟩ (a)).setCell ⟨z,1,none⟩ (b)).setCell ⟨z,2,none⟩ (c)).setCell ⟨z,3,none⟩ (d)).setCell ⟨z,4,none⟩ (e)):=
 ⟨x,rfl,(hv.keep (fun q hq _=>set5_heap W z q (hS q hq).2 a b c d e) (by simp [World.setCell])).wide fun q hq _=>(hS q hq).1,((((hB.setCell (p:=⟨z,0,none⟩) hz _).setCell (p:=⟨z,1,none⟩) hz _).setCell (p:=⟨z,2,none⟩) hz _).setCell (p:=⟨z,3,none⟩) hz _).setCell (p:=⟨z,4,none⟩) hz _⟩
theorem leaf_s (w:World) (S:Nat→Prop) (k n:Int):VaR w S (.agg #[.int .i64 k,.int .i64 n,.string ⟨#[]⟩,.slice none 0 0,.slice none 0 0]) (.mk k n ⟨#[]⟩ [] []):=
 VaR.of (ls:=[]) (ts:=[]) (Nat.zero_le _) (Nat.zero_le _) (fun i h=>absurd h (by simp)) (fun i h=>absurd h (by simp)) vasR_empty
def LeafN (k n:Int) (w:World) (e:Ending) (w':World):Prop:=e=.returned (.agg #[.int .i64 k,.int .i64 n,.string ⟨#[]⟩,.slice none 0 0,.slice none 0 0])∧Below w.heap.size w w'
set_option maxHeartbeats 1000000 in
theorem specInt_any (n:Int) (w:World):Calls Tryz.prog 155 #[.int .i64 n] w (LeafN 1 n w):=by
 have hb:=(Below.refl w.heap.size w).alloc (Nat.le_refl _) (.cells #[.int .i64 1,.int .i64 n,.string ⟨#[]⟩,.slice none 0 0,.slice none 0 0] 41)
 go_enter Tryz.func155,Tryz.ntmps155
 go_wp2
 exact bodyPost_ret (v:=.agg #[.int .i64 1,.int .i64 n,.string ⟨#[]⟩,.slice none 0 0,.slice none 0 0]) (by simp [results,Tryz.results155,go_sem]) rfl ⟨rfl,hb⟩
theorem specBit_any (b:Bool) (w:World):Calls Tryz.prog 188 #[.bool b] w (fun e w'=>e=.returned (.int .i64 (if b then 1 else 0))∧w'=w):=by
 cases b
 ·go_enter Tryz.func188,Tryz.ntmps188
  go_wp2
  go_ret
  exact ⟨rfl,rfl⟩
 ·go_enter Tryz.func188,Tryz.ntmps188
  go_wp2
  go_ret
  exact ⟨rfl,rfl⟩
set_option maxHeartbeats 1000000 in
theorem specBool_any (b:Bool) (w:World):Calls Tryz.prog 156 #[.bool b] w (LeafN 2 (if b then 1 else 0) w):=by
 have hb0:=(Below.refl w.heap.size w).alloc (Nat.le_refl _) (.cells #[.int .i64 0,.int .i64 0,.string ⟨#[]⟩,.slice none 0 0,.slice none 0 0] 41)
 have q0:=Whole1.new w 41 #[.int .i64 0,.int .i64 0,.string ⟨#[]⟩,.slice none 0 0,.slice none 0 0]
 have HB:=Lib.hid (specBit_any b)
 obtain ⟨z,hz⟩:∃ z:Int,z=if b then 1 else 0:=⟨_,rfl⟩
 rw [← hz] at HB ⊢
 clear hz
 go_enter Tryz.func156,Tryz.ntmps156
 go_wp2_with fail
 generalize w.alloc (.cells #[.int .i64 0,.int .i64 0,.string ⟨#[]⟩,.slice none 0 0,.slice none 0 0] 41)=w0 at *
 refine (HB.out w0).mono ?_
 rintro e w1 ⟨rfl,hw⟩
 rw [hw]
 obtain ⟨d0,d1,d2,d3,d4⟩:=q0.c5
 obtain ⟨df0,df1,df2,df3,df4⟩:=q0.f5
 go_wp2
 refine bodyPost_ret (v:=.agg #[.int .i64 2,.int .i64 z,.string ⟨#[]⟩,.slice none 0 0,.slice none 0 0]) (by simp [results,Tryz.results156,go_sem,d0,d1,d2,d3,d4]) rfl ⟨rfl,?_⟩
 exact ((((hb0.setCell (p:=⟨w.heap.size,0,none⟩) (Nat.le_refl _) _).setCell (p:=⟨w.heap.size,1,none⟩) (Nat.le_refl _) _).setCell (p:=⟨w.heap.size,2,none⟩) (Nat.le_refl _) _).setCell (p:=⟨w.heap.size,3,none⟩) (Nat.le_refl _) _).setCell (p:=⟨w.heap.size,4,none⟩) (Nat.le_refl _) _
set_option maxHeartbeats 2000000 in
theorem specOne_add (n:Int) (nm:ByteArray) (ts:List Ot) (s t:Ty) (kd:Int) (v:Va) (B:Option Addr) (bc:Nat) (vv:Value) (w:World) (hf:Fit (.mk 7 n nm ts) s t kd v) (hv:VaAt w w.heap.size vv v):
  Calls Tryz.prog 133 #[.agg #[.int .i64 7,.string nm,.int .i64 n,.slice B ts.length bc],vv] w (OneP (intVa (IntKind.i64.wrap (v.num+n))) w):=by
 have hszv:=hf.szv
 obtain ⟨L,lc,A,ac,rfl,hnm,hln,hlz,hl,ha⟩:=hv.open
 obtain ⟨hb0,p0,r0,q0,hs0⟩:=boxes3 w 30 41 41 #[.int .i64 7,.string nm,.int .i64 n,.slice B ts.length bc] #[.int .i64 v.kind,.int .i64 v.num,.string v.name,.slice L v.labels.length lc,.slice A v.args.length ac] #[.int .i64 0,.int .i64 0,.string ⟨#[]⟩,.slice none 0 0,.slice none 0 0]
 have hv0:=hv.up hb0
 have HB0:=Lib.hid hb0
 obtain ⟨z,hz⟩:∃ z,z=IntKind.i64.wrap (v.num+n):=⟨_,rfl⟩
 rw [← hz]
 have HW:=hz.symm
 clear hf hv hv0 hb0 hl ha hlz hz
 go_enter Tryz.func133,Tryz.ntmps133
 go_upto_region 1 with fail
 generalize ((w.alloc (.cells #[.int .i64 7,.string nm,.int .i64 n,.slice B ts.length bc] 30)).alloc (.cells #[.int .i64 v.kind,.int .i64 v.num,.string v.name,.slice L v.labels.length lc,.slice A v.args.length ac] 41)).alloc (.cells #[.int .i64 0,.int .i64 0,.string ⟨#[]⟩,.slice none 0 0,.slice none 0 0] 41)=w0 at *
 have HZ:=Lib.hid hs0
 have hlo:w.heap.size<w0.heap.size:=p0.lt
 have hlv:w.heap.size+1<w0.heap.size:=r0.lt
 have hlz0:w.heap.size+1+1<w0.heap.size:=q0.lt
 clear hs0
 obtain ⟨po0,po1,po2,po3⟩:=p0.c4
 obtain ⟨pv0,pv1,pv2,pv3,pv4⟩:=r0.c5
 go_wp2_with fail
 refine (specInt_any z w0).mono ?_
 rintro e w1 ⟨rfl,hb1⟩
 have q1:=q0.below hb1 hlz0
 obtain ⟨d0,d1,d2,d3,d4⟩:=q1.c5
 obtain ⟨df0,df1,df2,df3,df4⟩:=q1.f5
 have HB1:=Lib.hid (HB0.out.trans (hb1.mono HB0.out.size))
 have HB1':=Lib.hid hb1
 have hz3:w0.heap.size=w.heap.size+3:=HZ.out
 have HZ3:=Lib.hid hz3
 clear hz3 hb1 q1 q0 p0 r0 HZ
 go_wp2
 refine bodyPost_ret (v:=.agg #[.int .i64 1,.int .i64 z,.string ⟨#[]⟩,.slice none 0 0,.slice none 0 0]) (by simp [results,Tryz.results133,go_sem,d0,d1,d2,d3,d4]) rfl ?_
 exact one_ret (S:=fun _=>False) (by omega) HB1.out (leaf_s _ _ _ _) (fun _ h=>h.elim) _ _ _ _ _
set_option maxHeartbeats 2000000 in
theorem specOne_not (n:Int) (nm:ByteArray) (ts:List Ot) (s t:Ty) (kd:Int) (v:Va) (B:Option Addr) (bc:Nat) (vv:Value) (w:World) (hf:Fit (.mk 8 n nm ts) s t kd v) (hv:VaAt w w.heap.size vv v):
  Calls Tryz.prog 133 #[.agg #[.int .i64 8,.string nm,.int .i64 n,.slice B ts.length bc],vv] w (OneP (boolVa (decide (v.num=0))) w):=by
 have hszv:=hf.szv
 obtain ⟨L,lc,A,ac,rfl,hnm,hln,hlz,hl,ha⟩:=hv.open
 obtain ⟨hb0,p0,r0,q0,hs0⟩:=boxes3 w 30 41 41 #[.int .i64 8,.string nm,.int .i64 n,.slice B ts.length bc] #[.int .i64 v.kind,.int .i64 v.num,.string v.name,.slice L v.labels.length lc,.slice A v.args.length ac] #[.int .i64 0,.int .i64 0,.string ⟨#[]⟩,.slice none 0 0,.slice none 0 0]
 have hv0:=hv.up hb0
 have HB0:=Lib.hid hb0
 obtain ⟨b,hb⟩:∃ b:Bool,b=decide (v.num=0):=⟨_,rfl⟩
 rw [← hb]
 obtain ⟨z,hz⟩:∃ z:Int,z=if b then 1 else 0:=⟨_,rfl⟩
 have HE:=Lib.hid (show boolVa b=.mk 2 z ⟨#[]⟩ [] [] by rw [hz];rfl)
 have HC:=Lib.hid (specBool_any b)
 rw [← hz] at HC
 have HW:(v.num == 0)=b:=by rw [hb];simp [BEq.beq]
 have HW2:=hb.symm
 clear hf hv hv0 hb0 hl ha hlz hz hb
 go_enter Tryz.func133,Tryz.ntmps133
 go_upto_region 1 with fail
 generalize ((w.alloc (.cells #[.int .i64 8,.string nm,.int .i64 n,.slice B ts.length bc] 30)).alloc (.cells #[.int .i64 v.kind,.int .i64 v.num,.string v.name,.slice L v.labels.length lc,.slice A v.args.length ac] 41)).alloc (.cells #[.int .i64 0,.int .i64 0,.string ⟨#[]⟩,.slice none 0 0,.slice none 0 0] 41)=w0 at *
 have HZ:=Lib.hid hs0
 have hlo:w.heap.size<w0.heap.size:=p0.lt
 have hlv:w.heap.size+1<w0.heap.size:=r0.lt
 have hlz0:w.heap.size+1+1<w0.heap.size:=q0.lt
 clear hs0
 obtain ⟨po0,po1,po2,po3⟩:=p0.c4
 obtain ⟨pv0,pv1,pv2,pv3,pv4⟩:=r0.c5
 go_wp2_with fail
 refine (HC.out w0).mono ?_
 rintro e w1 ⟨rfl,hb1⟩
 have q1:=q0.below hb1 hlz0
 obtain ⟨d0,d1,d2,d3,d4⟩:=q1.c5
 obtain ⟨df0,df1,df2,df3,df4⟩:=q1.f5
 have HB1:=Lib.hid (HB0.out.trans (hb1.mono HB0.out.size))
 have HB1':=Lib.hid hb1
 have hz3:w0.heap.size=w.heap.size+3:=HZ.out
 have HZ3:=Lib.hid hz3
 clear hz3 hb1 q1 q0 p0 r0 HZ
 go_wp2
 refine bodyPost_ret (v:=.agg #[.int .i64 2,.int .i64 z,.string ⟨#[]⟩,.slice none 0 0,.slice none 0 0]) (by simp [results,Tryz.results133,go_sem,d0,d1,d2,d3,d4]) rfl ?_
 exact HE.out ▸ one_ret (S:=fun _=>False) (by omega) HB1.out (leaf_s _ _ _ _) (fun _ h=>h.elim) _ _ _ _ _
set_option maxHeartbeats 2000000 in
theorem specOne_rev (n:Int) (nm:ByteArray) (ts:List Ot) (s t:Ty) (kd:Int) (v:Va) (B:Option Addr) (bc:Nat) (vv:Value) (w:World) (hf:Fit (.mk 9 n nm ts) s t kd v) (hv:VaAt w w.heap.size vv v):
  Calls Tryz.prog 133 #[.agg #[.int .i64 9,.string nm,.int .i64 n,.slice B ts.length bc],vv] w (OneP (listVa v.args.reverse) w):=by
 have hszv:=hf.szv
 obtain ⟨L,lc,A,ac,rfl,hnm,hln,hlz,hl,ha⟩:=hv.open
 obtain ⟨hb0,p0,r0,q0,hs0⟩:=boxes3 w 30 41 41 #[.int .i64 9,.string nm,.int .i64 n,.slice B ts.length bc] #[.int .i64 v.kind,.int .i64 v.num,.string v.name,.slice L v.labels.length lc,.slice A v.args.length ac] #[.int .i64 0,.int .i64 0,.string ⟨#[]⟩,.slice none 0 0,.slice none 0 0]
 have hv0:=hv.up hb0
 have HB0:=Lib.hid hb0
 have HC:=Lib.hid (specTurned_any v _ _ hv0 (by omega))
 clear hf hv hv0 hb0 hl ha hlz
 go_enter Tryz.func133,Tryz.ntmps133
 go_upto_region 1 with fail
 generalize ((w.alloc (.cells #[.int .i64 9,.string nm,.int .i64 n,.slice B ts.length bc] 30)).alloc (.cells #[.int .i64 v.kind,.int .i64 v.num,.string v.name,.slice L v.labels.length lc,.slice A v.args.length ac] 41)).alloc (.cells #[.int .i64 0,.int .i64 0,.string ⟨#[]⟩,.slice none 0 0,.slice none 0 0] 41)=w0 at *
 have HZ:=Lib.hid hs0
 have hlo:w.heap.size<w0.heap.size:=p0.lt
 have hlv:w.heap.size+1<w0.heap.size:=r0.lt
 have hlz0:w.heap.size+1+1<w0.heap.size:=q0.lt
 clear hs0
 obtain ⟨po0,po1,po2,po3⟩:=p0.c4
 obtain ⟨pv0,pv1,pv2,pv3,pv4⟩:=r0.c5
 go_wp2_with fail
 refine (HC.out).mono ?_
 rintro e w1 ⟨A1,c1,rfl,h1,hb1⟩
 have HV:=Lib.hid (VaR.of (k:=5) (n:=0) (nm:=⟨#[]⟩) (ls:=[]) (L:=none) (lc:=0) (ac:=c1) (Nat.zero_le _) (Nat.zero_le _) (fun i h=>absurd h (by simp)) (fun i h=>absurd h (by simp)) h1)
 rw [List.length_reverse] at HV
 clear h1
 have q1:=q0.below hb1 hlz0
 obtain ⟨d0,d1,d2,d3,d4⟩:=q1.c5
 obtain ⟨df0,df1,df2,df3,df4⟩:=q1.f5
 have HB1:=Lib.hid (HB0.out.trans (hb1.mono HB0.out.size))
 have HB1':=Lib.hid hb1
 have hz3:w0.heap.size=w.heap.size+3:=HZ.out
 have HZ3:=Lib.hid hz3
 clear hz3 hb1 q1 q0 p0 r0 HZ
 go_wp2
 refine bodyPost_ret (v:=.agg #[.int .i64 5,.int .i64 0,.string ⟨#[]⟩,.slice none 0 0,.slice A1 v.args.length c1]) (by simp [results,Tryz.results133,go_sem,d0,d1,d2,d3,d4]) rfl ?_
 exact one_ret (S:=fun b=>w0.heap.size≤b) (by omega) HB1.out HV.out (fun q hq=>by have:=HZ3.out;omega) _ _ _ _ _
set_option maxHeartbeats 2000000 in
theorem specOne_id (n:Int) (nm:ByteArray) (ts:List Ot) (s t:Ty) (kd:Int) (v:Va) (B:Option Addr) (bc:Nat) (vv:Value) (w:World) (hf:Fit (.mk 1 n nm ts) s t kd v) (hv:VaAt w w.heap.size vv v):
  Calls Tryz.prog 133 #[.agg #[.int .i64 1,.string nm,.int .i64 n,.slice B ts.length bc],vv] w (OneP (v) w):=by
 have hszv:=hf.szv
 obtain ⟨L,lc,A,ac,rfl,hnm,hln,hlz,hl,ha⟩:=hv.open
 obtain ⟨hb0,p0,r0,q0,hs0⟩:=boxes3 w 30 41 41 #[.int .i64 1,.string nm,.int .i64 n,.slice B ts.length bc] #[.int .i64 v.kind,.int .i64 v.num,.string v.name,.slice L v.labels.length lc,.slice A v.args.length ac] #[.int .i64 0,.int .i64 0,.string ⟨#[]⟩,.slice none 0 0,.slice none 0 0]
 have hv0:=hv.up hb0
 have HB0:=Lib.hid hb0
 have HC:=Lib.hid (specCopyV_any v _ _ hv0 (by omega))
 clear hf hv hv0 hb0 hl ha hlz
 go_enter Tryz.func133,Tryz.ntmps133
 go_upto_region 1 with fail
 generalize ((w.alloc (.cells #[.int .i64 1,.string nm,.int .i64 n,.slice B ts.length bc] 30)).alloc (.cells #[.int .i64 v.kind,.int .i64 v.num,.string v.name,.slice L v.labels.length lc,.slice A v.args.length ac] 41)).alloc (.cells #[.int .i64 0,.int .i64 0,.string ⟨#[]⟩,.slice none 0 0,.slice none 0 0] 41)=w0 at *
 have HZ:=Lib.hid hs0
 have hlo:w.heap.size<w0.heap.size:=p0.lt
 have hlv:w.heap.size+1<w0.heap.size:=r0.lt
 have hlz0:w.heap.size+1+1<w0.heap.size:=q0.lt
 clear hs0
 obtain ⟨po0,po1,po2,po3⟩:=p0.c4
 obtain ⟨pv0,pv1,pv2,pv3,pv4⟩:=r0.c5
 go_wp2_with fail
 refine (HC.out).mono ?_
 rintro e w1 ⟨v1,rfl,h1,hb1⟩
 have HV:=Lib.hid ((VaR.of_in h1).wide (S':=fun b=>w0.heap.size≤b) fun q hq _=>hq.1)
 obtain ⟨T1,U1,T2,U2,_,rfl,_⟩:=h1.open
 clear h1
 have q1:=q0.below hb1 hlz0
 obtain ⟨d0,d1,d2,d3,d4⟩:=q1.c5
 obtain ⟨df0,df1,df2,df3,df4⟩:=q1.f5
 have HB1:=Lib.hid (HB0.out.trans (hb1.mono HB0.out.size))
 have HB1':=Lib.hid hb1
 have hz3:w0.heap.size=w.heap.size+3:=HZ.out
 have HZ3:=Lib.hid hz3
 clear hz3 hb1 q1 q0 p0 r0 HZ
 go_wp2
 refine bodyPost_ret (v:=.agg #[.int .i64 v.kind,.int .i64 v.num,.string v.name,.slice T1 v.labels.length U1,.slice T2 v.args.length U2]) (by simp [results,Tryz.results133,go_sem,d0,d1,d2,d3,d4]) rfl ?_
 exact one_ret (S:=fun b=>w0.heap.size≤b) (by omega) HB1.out HV.out (fun q hq=>by have:=HZ3.out;omega) _ _ _ _ _
theorem rec_r {W:World} {S:Nat→Prop} {gl ga:Nat} {nm:ByteArray} {a b c d e:Value} {v:Va} (hn:nm.size≤4) (hl:Whole1 W gl 9 #[.string nm]) (hv:VaR W S (.agg #[a,b,c,d,e]) v) (ha:Whole1 W ga 41 #[a,b,c,d,e]) (h1:S gl) (h2:S ga):
  VaR W S (.agg #[.int .i64 3,.int .i64 0,.string ⟨#[]⟩,.slice (some ⟨gl,0,none⟩) 1 1,.slice (some ⟨ga,0,none⟩) 1 1]) (recVa nm v):=
 VaR.of (k:=3) (n:=0) (nm:=⟨#[]⟩) (ls:=[nm]) (L:=some ⟨gl,0,none⟩) (lc:=1) (ac:=1) (Nat.zero_le _) (by simp [maxLen]) (fun i h=>by
   have h0:i=0:=by simp at h;exact h
   subst h0
   simp [maxLen];omega) (fun i h=>by
   have h0:i=0:=by simp at h;exact h
   subst h0
   exact ⟨gl,0,rfl,h1,hl.lt,by rw [hl.cell];rfl⟩) ((VasR.one_at hv (Below.refl _ _) ha).wide fun b hb _=>hb.elim id fun h=>h ▸ h2)
set_option maxHeartbeats 8000000 in
theorem specOne_wrap (n:Int) (nm:ByteArray) (ts:List Ot) (s t:Ty) (kd:Int) (v:Va) (B:Option Addr) (bc:Nat) (vv:Value) (w:World) (hf:Fit (.mk 10 n nm ts) s t kd v) (hv:VaAt w w.heap.size vv v):
  Calls Tryz.prog 133 #[.agg #[.int .i64 10,.string nm,.int .i64 n,.slice B ts.length bc],vv] w (OneP (recVa nm v) w):=by
 have hszv:=hf.szv
 obtain ⟨L,lc,A,ac,rfl,hnm,hln,hlz,hl,ha⟩:=hv.open
 obtain ⟨hb0,p0,r0,q0,hs0⟩:=boxes3 w 30 41 41 #[.int .i64 10,.string nm,.int .i64 n,.slice B ts.length bc] #[.int .i64 v.kind,.int .i64 v.num,.string v.name,.slice L v.labels.length lc,.slice A v.args.length ac] #[.int .i64 0,.int .i64 0,.string ⟨#[]⟩,.slice none 0 0,.slice none 0 0]
 have hv0:=hv.up hb0
 have HB0:=Lib.hid hb0
 have hn4:=hf.name
 have HC:=Lib.hid (fun W (h:VaAt W W.heap.size (.agg #[.int .i64 v.kind,.int .i64 v.num,.string v.name,.slice L v.labels.length lc,.slice A v.args.length ac]) v)=>specCopyV_any v _ W h (by omega))
 have HV:=Lib.hid hv0
 clear hf hv hv0 hb0 hl ha hlz
 go_enter Tryz.func133,Tryz.ntmps133
 go_upto_region 1 with fail
 generalize ((w.alloc (.cells #[.int .i64 10,.string nm,.int .i64 n,.slice B ts.length bc] 30)).alloc (.cells #[.int .i64 v.kind,.int .i64 v.num,.string v.name,.slice L v.labels.length lc,.slice A v.args.length ac] 41)).alloc (.cells #[.int .i64 0,.int .i64 0,.string ⟨#[]⟩,.slice none 0 0,.slice none 0 0] 41)=w0 at *
 have HZ:=Lib.hid hs0
 have hlo:w.heap.size<w0.heap.size:=p0.lt
 have hlv:w.heap.size+1<w0.heap.size:=r0.lt
 have hlz0:w.heap.size+1+1<w0.heap.size:=q0.lt
 clear hs0
 obtain ⟨po0,po1,po2,po3⟩:=p0.c4
 obtain ⟨pv0,pv1,pv2,pv3,pv4⟩:=r0.c5
 have hlo2:w.heap.size+1+1≤w0.heap.size:=Nat.le_of_lt hlz0
 have KS:=Lib.hid (fun (x:World) (hx:Below (w.heap.size+1+1) w0 x)=>And.intro (kC hx po1 (by show w.heap.size<w.heap.size+1+1;omega)) (And.intro (kC hx pv0 (by show w.heap.size+1<w.heap.size+1+1;omega)) (And.intro (kC hx pv1 (by show w.heap.size+1<w.heap.size+1+1;omega)) (And.intro (kC hx pv2 (by show w.heap.size+1<w.heap.size+1+1;omega)) (And.intro (kC hx pv3 (by show w.heap.size+1<w.heap.size+1+1;omega)) (kC hx pv4 (by show w.heap.size+1<w.heap.size+1+1;omega)))))))
 have hD:=(Below.refl w0.heap.size w0).drew
 have hDA:=((Below.refl w0.heap.size w0).alloc (Nat.le_refl _) (.cells #[.string nm] 9)).drew
 have hwS:Whole1 (w0.alloc (.cells #[.string nm] 9)).drew w0.heap.size 9 #[.string nm]:=Whole1.new w0 _ _
 have t_0:=dC po1
 have t_1:=dC pv0
 have t_2:=dC pv1
 have t_3:=dC pv2
 have t_4:=dC pv3
 have t_5:=dC pv4
 clear p0 r0
 go_upto_region 9 with fail
 go_region_held3 (fun x:World=>x.cell? ⟨w.heap.size,1,none⟩=some (.string nm)∧x.cell? ⟨w.heap.size+1,0,none⟩=some (.int .i64 v.kind)∧x.cell? ⟨w.heap.size+1,1,none⟩=some (.int .i64 v.num)∧x.cell? ⟨w.heap.size+1,2,none⟩=some (.string v.name)∧x.cell? ⟨w.heap.size+1,3,none⟩=some (.slice L v.labels.length lc)∧x.cell? ⟨w.heap.size+1,4,none⟩=some (.slice A v.args.length ac))
  (first | (with_reducible exact KS.out _ (hD.mono hlo2)) | (with_reducible exact KS.out _ (hDA.mono hlo2)) | (with_reducible exact KS.out _ (h2'.mono hlo2)) | (with_reducible exact KS.out _ (hk1.mono hlo2)) | (with_reducible exact KS.out _ (hk2.mono hlo2)) | (with_reducible exact KS.out _ (bzA.mono hlo2)) | (with_reducible exact KS.out _ (bzB.mono hlo2)) | (with_reducible exact KS.out _ (bzC.mono hlo2)) | (with_reducible exact KS.out _ hSA) | (with_reducible exact KS.out _ hSB) | (with_reducible exact KS.out _ hSC) | go_keep)
  (first | (go_at_call 128;(with_reducible refine (HC.out _ (HV.out.up hDA)).mono ?_);rintro e w1 ⟨v1,rfl,h1,h2⟩;have h2':=hDA.trans (h2.mono hDA.size);have hge1:w0.heap.size≤w1.heap.size:=h2'.size;have hv1:=((VaR.of_in h1).wide (S':=fun b=>w0.heap.size≤b) fun q hq _=>Nat.le_trans hDA.size hq.1);obtain ⟨T1,U1,T2,U2,_,rfl,_⟩:=h1.open;have hx1:=(Below.refl w1.heap.size w1).alloc (Nat.le_refl _) (.cells #[.int .i64 v.kind,.int .i64 v.num,.string v.name,.slice T1 v.labels.length U1,.slice T2 v.args.length U2] 41);have bzA:=h2'.trans (hx1.mono h2'.size);have qzA:=q0.below bzA hlz0;obtain ⟨dA0,dA1,dA2,dA3,dA4⟩:=qzA.c5;obtain ⟨dAf0,dAf1,dAf2,dAf3,dAf4⟩:=qzA.f5;have hSA:=(((((bzA.mono hlo2).setCell (p:=⟨w.heap.size+1+1,0,none⟩) (Nat.le_refl _) (.int .i64 3)).setCell (p:=⟨w.heap.size+1+1,1,none⟩) (Nat.le_refl _) (.int .i64 0)).setCell (p:=⟨w.heap.size+1+1,2,none⟩) (Nat.le_refl _) (.string ⟨#[]⟩)).setCell (p:=⟨w.heap.size+1+1,3,none⟩) (Nat.le_refl _) (.slice (some ⟨w0.heap.size,0,none⟩) 1 1)).setCell (p:=⟨w.heap.size+1+1,4,none⟩) (Nat.le_refl _) (.slice (some ⟨w1.heap.size,0,none⟩) 1 1);have HBA:=Lib.hid (HB0.out.trans (bzA.mono HB0.out.size));have HRA:=Lib.hid (rec_r (W:=(w1.alloc (.cells #[.int .i64 v.kind,.int .i64 v.num,.string v.name,.slice T1 v.labels.length U1,.slice T2 v.args.length U2] 41))) (S:=fun b=>w0.heap.size≤b) (gl:=w0.heap.size) (ga:=w1.heap.size) hn4 ((hwS.below h2 hwS.lt).below hx1 (hwS.below h2 hwS.lt).lt) (hv1.up hx1) (Whole1.new w1 41 _) (Nat.le_refl _) hge1);clear h1 h2) | (go_at_call 128;(with_reducible refine (HC.out _ (HV.out.up hD)).mono ?_);rintro e w1 ⟨v1,rfl,h1,h2⟩;have h2':=hD.trans h2;have hge1:w0.heap.size≤w1.heap.size:=h2'.size;have hge2:w0.heap.size≤w1.heap.size+1:=Nat.le_succ_of_le hge1;have hv1:=((VaR.of_in h1).wide (S':=fun b=>w0.heap.size≤b) fun q hq _=>hq.1);obtain ⟨T1,U1,T2,U2,_,rfl,_⟩:=h1.open;obtain ⟨hx2,n2a,n2b,_⟩:=boxes2 w1 9 41 #[.string nm] #[.int .i64 v.kind,.int .i64 v.num,.string v.name,.slice T1 v.labels.length U1,.slice T2 v.args.length U2];obtain ⟨hx3,n3a,n3b,_⟩:=boxes2 w1 41 9 #[.int .i64 v.kind,.int .i64 v.num,.string v.name,.slice T1 v.labels.length U1,.slice T2 v.args.length U2] #[.string nm];have hk1:=h2'.trans (((Below.refl w1.heap.size w1).alloc (Nat.le_refl _) (.cells #[.string nm] 9)).mono h2'.size);have hk2:=h2'.trans (((Below.refl w1.heap.size w1).alloc (Nat.le_refl _) (.cells #[.int .i64 v.kind,.int .i64 v.num,.string v.name,.slice T1 v.labels.length U1,.slice T2 v.args.length U2] 41)).mono h2'.size);have bzB:=h2'.trans (hx2.mono h2'.size);have qzB:=q0.below bzB hlz0;obtain ⟨dB0,dB1,dB2,dB3,dB4⟩:=qzB.c5;obtain ⟨dBf0,dBf1,dBf2,dBf3,dBf4⟩:=qzB.f5;have hSB:=(((((bzB.mono hlo2).setCell (p:=⟨w.heap.size+1+1,0,none⟩) (Nat.le_refl _) (.int .i64 3)).setCell (p:=⟨w.heap.size+1+1,1,none⟩) (Nat.le_refl _) (.int .i64 0)).setCell (p:=⟨w.heap.size+1+1,2,none⟩) (Nat.le_refl _) (.string ⟨#[]⟩)).setCell (p:=⟨w.heap.size+1+1,3,none⟩) (Nat.le_refl _) (.slice (some ⟨w1.heap.size,0,none⟩) 1 1)).setCell (p:=⟨w.heap.size+1+1,4,none⟩) (Nat.le_refl _) (.slice (some ⟨(w1.heap.size+1),0,none⟩) 1 1);have HBB:=Lib.hid (HB0.out.trans (bzB.mono HB0.out.size));have HRB:=Lib.hid (rec_r (W:=((w1.alloc (.cells #[.string nm] 9)).alloc (.cells #[.int .i64 v.kind,.int .i64 v.num,.string v.name,.slice T1 v.labels.length U1,.slice T2 v.args.length U2] 41))) (S:=fun b=>w0.heap.size≤b) (gl:=w1.heap.size) (ga:=(w1.heap.size+1)) hn4 (n2a) (hv1.up hx2) (n2b) hge1 hge2);have bzC:=h2'.trans (hx3.mono h2'.size);have qzC:=q0.below bzC hlz0;obtain ⟨dC0,dC1,dC2,dC3,dC4⟩:=qzC.c5;obtain ⟨dCf0,dCf1,dCf2,dCf3,dCf4⟩:=qzC.f5;have hSC:=(((((bzC.mono hlo2).setCell (p:=⟨w.heap.size+1+1,0,none⟩) (Nat.le_refl _) (.int .i64 3)).setCell (p:=⟨w.heap.size+1+1,1,none⟩) (Nat.le_refl _) (.int .i64 0)).setCell (p:=⟨w.heap.size+1+1,2,none⟩) (Nat.le_refl _) (.string ⟨#[]⟩)).setCell (p:=⟨w.heap.size+1+1,3,none⟩) (Nat.le_refl _) (.slice (some ⟨(w1.heap.size+1),0,none⟩) 1 1)).setCell (p:=⟨w.heap.size+1+1,4,none⟩) (Nat.le_refl _) (.slice (some ⟨w1.heap.size,0,none⟩) 1 1);have HBC:=Lib.hid (HB0.out.trans (bzC.mono HB0.out.size));have HRC:=Lib.hid (rec_r (W:=((w1.alloc (.cells #[.int .i64 v.kind,.int .i64 v.num,.string v.name,.slice T1 v.labels.length U1,.slice T2 v.args.length U2] 41)).alloc (.cells #[.string nm] 9))) (S:=fun b=>w0.heap.size≤b) (gl:=(w1.heap.size+1)) (ga:=w1.heap.size) hn4 (n3b) (hv1.up hx3) (n3a) hge2 hge1);clear h1 h2))
 all_goals go_wp2
 ·refine bodyPost_ret (v:=.agg #[.int .i64 3,.int .i64 0,.string ⟨#[]⟩,.slice (some ⟨w0.heap.size,0,none⟩) 1 1,.slice (some ⟨w1.heap.size,0,none⟩) 1 1]) (by simp [results,Tryz.results133,go_sem,dA0,dA1,dA2,dA3,dA4]) rfl ?_
  exact one_ret (S:=fun b=>w0.heap.size≤b) (by omega) HBA.out HRA.out (fun q hq=>by have:=HZ.out;omega) _ _ _ _ _
 ·refine bodyPost_ret (v:=.agg #[.int .i64 3,.int .i64 0,.string ⟨#[]⟩,.slice (some ⟨w1.heap.size,0,none⟩) 1 1,.slice (some ⟨w1.heap.size+1,0,none⟩) 1 1]) (by simp [results,Tryz.results133,go_sem,dB0,dB1,dB2,dB3,dB4]) rfl ?_
  exact one_ret (S:=fun b=>w0.heap.size≤b) (by omega) HBB.out HRB.out (fun q hq=>by have:=HZ.out;omega) _ _ _ _ _
 ·refine bodyPost_ret (v:=.agg #[.int .i64 3,.int .i64 0,.string ⟨#[]⟩,.slice (some ⟨w1.heap.size+1,0,none⟩) 1 1,.slice (some ⟨w1.heap.size,0,none⟩) 1 1]) (by simp [results,Tryz.results133,go_sem,dC0,dC1,dC2,dC3,dC4]) rfl ?_
  exact one_ret (S:=fun b=>w0.heap.size≤b) (by omega) HBC.out HRC.out (fun q hq=>by have:=HZ.out;omega) _ _ _ _ _
end Go.Proofs.YtfnblkcmcfofoaaGreatDoor
