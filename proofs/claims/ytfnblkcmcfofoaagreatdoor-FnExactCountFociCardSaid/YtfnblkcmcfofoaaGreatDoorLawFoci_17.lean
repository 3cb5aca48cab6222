/- Lemmas: SpecOLeaf. -/
import Derived.Test.YtfnblkcmcfofoaaGreatDoorLawFoci_16
import Derived.Test.YtfnblkcmcfofoaaGreatDoorLawFoci_15
import Derived.Deep.RegionHeld3
import Derived.Deep.DrawnRows
import Derived.RegionTactic

namespace Go.Proofs.YtfnblkcmcfofoaaGreatDoor
set_option maxRecDepth 100000
open Go.RowKit
attribute [local go_sem ↓] Go.wp_at_zero Go.wp_at_succ
def SomePost (r:Option (Ty×Int)) (w:World) (e:Ending) (w':World):Prop:=
 ∃ v t kd,e=.returned (.tuple #[v,.int .i64 kd,.bool r.isSome])∧TyIn w' (Span w.heap.size w'.heap.size) v t∧Below w.heap.size w w'∧szTy t≤2000∧(r=none∨r=some (t,kd))
theorem set3_in {w W:World} {v:Value} {t:Ty} {g lo:Nat} (hI:TyIn W (Span lo W.heap.size) v t) (hlo:g<lo) (hg:w.heap.size≤g) (hb:Below w.heap.size w W) (x y z:Value):
  TyIn (((W.setCell ⟨g,0,none⟩ x).setCell ⟨g,1,none⟩ y).setCell ⟨g,2,none⟩ z) (Span w.heap.size (((W.setCell ⟨g,0,none⟩ x).setCell ⟨g,1,none⟩ y).setCell ⟨g,2,none⟩ z).heap.size) v t∧Below w.heap.size w (((W.setCell ⟨g,0,none⟩ x).setCell ⟨g,1,none⟩ y).setCell ⟨g,2,none⟩ z):=by
 refine ⟨(hI.keep fun q hq _=>?_).wide fun q hq=>⟨by have:=hq.1;omega,?_⟩,((hb.setCell hg _).setCell hg _).setCell hg _⟩
 ·have:q≠g:=by have:=hq.1;omega
  rw [Below.heap_setCell _ _ _ _ this,Below.heap_setCell _ _ _ _ this,Below.heap_setCell _ _ _ _ this]
 ·have:=hq.2
  simpa [World.setCell] using this
theorem set3_far {W:World} {g b i:Nat} (x y z u:Value) (h:W.cell? ⟨b,i,none⟩=some u) (hne:g≠b):(((W.setCell ⟨g,0,none⟩ x).setCell ⟨g,1,none⟩ y).setCell ⟨g,2,none⟩ z).cell? ⟨b,i,none⟩=some u:=
 (World.cell?_setCell_far _ _ _ _ (fun e=>hne e)).trans ((World.cell?_setCell_far _ _ _ _ (fun e=>hne e)).trans ((World.cell?_setCell_far _ _ _ _ (fun e=>hne e)).trans h))
theorem one_tys {W:World} {g:Nat} {a b c:Value} {s:Ty} (hw:Whole1 W g 27 #[a,b,c]) (hv:TyAt W W.heap.size (.agg #[a,b,c]) s):TysAt W W.heap.size (some ⟨g,0,none⟩) [s]:=
 ⟨by simp [maxLen],fun _=>.agg #[a,b,c],fun i hi=>⟨g,0,rfl,hw.lt,fun j hj=>by
  obtain rfl:i=0:=by simpa using hi
  simp only [Nat.zero_mul,Nat.zero_add]
  exact hw.cell j⟩,fun i hi=>by
  obtain rfl:i=0:=by simpa using hi
  exact hv⟩
theorem formTy_node {sk:Int} {sl:List ByteArray} {sa:List Ty} (h:validB (.mk sk sl sa)=true):nodeB sk sl sa.length=true:=by
 unfold validB at h
 simp only [Bool.and_eq_true,formTy] at h
 exact h.2.2
theorem list_one {sl:List ByteArray} {sa:List Ty} (h:validB (.mk 5 sl sa)=true):∃ e,sa=[e]:=by
 have h1:=formTy_node h
 simp [nodeB] at h1
 exact List.length_eq_one_iff.1 h1.2
theorem uniform_first {t:Ty} (h:uniformB t=true):0<t.args.length:=by
 unfold uniformB at h
 simp only [Bool.and_eq_true,decide_eq_true_eq] at h
 obtain ⟨⟨h1,h2⟩,_⟩:=h
 cases t with
 | mk k ls ts=>
  simp only [Ty.kind] at h2
  subst h2
  have h3:=formTy_node h1
  simp [nodeB,labelsB] at h3
  simp only [Ty.args]
  omega
theorem args_at {w:World} {B' lc ac:Nat} {k:Int} {ls:List ByteArray} {ts:List Ty} {L A:Option Addr} (h:TyAt w B' (.agg #[.int .i64 k,.slice L ls.length lc,.slice A ts.length ac]) (.mk k ls ts)):TysAt w B' A ts:=by
 obtain ⟨L',lc',A',ac',h5,_,_,_,ha⟩:=h.open
 simp only [Value.agg.injEq,Array.mk.injEq,List.cons.injEq,Value.slice.injEq] at h5
 obtain ⟨_,_,⟨rfl,_,_⟩,_⟩:=h5
 exact ha
theorem sz_argV {s:Ty} (hs:validB s=true) (i:Nat) (h:i<s.args.length):szTy s.args[i]≤660:=by
 have h1:=szTy_valid hs
 have h2:=szTy_eq s
 have h3:=szTy_part s.args i h
 omega
theorem sz_partB {s:Ty} {l:ByteArray}:szTy ((partB s l).getD zeroTy)≤660:=by
 unfold partB
 split
 ·rename_i h
  cases hh:s.args[(idxOf s.labels l).toNat]? with
  | none=>simp [zeroTy,szTy_eq,Ty.labels,Ty.args,sumSizes,szTys]
  | some t=>
   obtain ⟨hi,rfl⟩:=List.getElem?_eq_some_iff.1 hh
   exact sz_argV h.1 _ hi
 ·simp [zeroTy,szTy_eq,Ty.labels,Ty.args,sumSizes,szTys]
set_option maxHeartbeats 8000000 in
theorem leaf_id (sk:Int) (sl:List ByteArray) (sa:List Ty) (L A B:Option Addr) (lc ac bc:Nat) (n0:Int) (nm:ByteArray) (ts:List Ot) (w:World) (hv:TyAt w w.heap.size (.agg #[.int .i64 sk,.slice L sl.length lc,.slice A sa.length ac]) (.mk sk sl sa)) (hval:validB (.mk sk sl sa)=true):
  Calls Tryz.prog 149 #[.agg #[.int .i64 sk,.slice L sl.length lc,.slice A sa.length ac],.agg #[.int .i64 1,.string nm,.int .i64 n0,.slice B ts.length bc]] w (SomePost (some (.mk sk sl sa,1)) w):=by
 obtain ⟨hb0,p0,q0,z0,hs0⟩:=boxes3 w 27 30 27 #[.int .i64 sk,.slice L sl.length lc,.slice A sa.length ac] #[.int .i64 1,.string nm,.int .i64 n0,.slice B ts.length bc] #[.int .i64 0,.slice none 0 0,.slice none 0 0]
 have hv0:=hv.up hb0
 have hpl:=p0.lt
 have hzl:=z0.lt
 have hsz:=szTy_valid hval
 have HC:=Lib.hid (fun W h=>specCopy_any (.mk sk sl sa) (.agg #[.int .i64 sk,.slice L sl.length lc,.slice A sa.length ac]) W h (by omega))
 clear hv hval hs0
 go_enter Tryz.func149,Tryz.ntmps149
 go_wp2_with fail
 generalize ((w.alloc (.cells #[.int .i64 sk,.slice L sl.length lc,.slice A sa.length ac] 27)).alloc (.cells #[.int .i64 1,.string nm,.int .i64 n0,.slice B ts.length bc] 30)).alloc (.cells #[.int .i64 0,.slice none 0 0,.slice none 0 0] 27)=w0 at *
 refine (HC.out w0 hv0).mono ?_
 rintro e w1 ⟨v2,rfl,hv2,hb1⟩
 have HV2:=hv2
 obtain ⟨T1,U1,T2,U2,_,rfl,_⟩:=hv2.open
 have cb1:=hb0.trans (hb1.mono hb0.size)
 have hsb:=hb1.size
 have z1:=z0.below hb1 hzl
 have HF:=Lib.hid (fun x y z=>(show SomePost (some (.mk sk sl sa,1)) w _ _ from ⟨_,(Ty.mk sk sl sa),1,rfl,(set3_in HV2 hzl (by omega) cb1 x y z).1,(set3_in HV2 hzl (by omega) cb1 x y z).2,by omega,Or.inr rfl⟩))
 obtain ⟨d0,d1,d2⟩:=z1.c3
 obtain ⟨f0,f1,f2⟩:=z1.f3
 clear HV2 hv2 hb1 cb1 z1 hb0 p0 q0 z0 hsb
 go_wp2
 exact bodyPost_ret (v:=.tuple #[.agg #[.int .i64 (Ty.mk sk sl sa).kind,.slice T1 (Ty.mk sk sl sa).labels.length U1,.slice T2 (Ty.mk sk sl sa).args.length U2],.int .i64 1,.bool true]) (by simp [results,Tryz.results149,go_sem,d0,d1,d2]) rfl (HF.out _ _ _)
set_option maxHeartbeats 8000000 in
theorem leaf_field (sl:List ByteArray) (sa:List Ty) (L A B:Option Addr) (lc ac bc:Nat) (n0:Int) (nm:ByteArray) (ts:List Ot) (w:World) (hv:TyAt w w.heap.size (.agg #[.int .i64 3,.slice L sl.length lc,.slice A sa.length ac]) (.mk 3 sl sa)) (hval:validB (.mk 3 sl sa)=true):
  Calls Tryz.prog 149 #[.agg #[.int .i64 3,.slice L sl.length lc,.slice A sa.length ac],.agg #[.int .i64 2,.string nm,.int .i64 n0,.slice B ts.length bc]] w (SomePost ((partB (.mk 3 sl sa) nm).map (·,2)) w):=by
 obtain ⟨hb0,p0,q0,z0,hs0⟩:=boxes3 w 27 30 27 #[.int .i64 3,.slice L sl.length lc,.slice A sa.length ac] #[.int .i64 2,.string nm,.int .i64 n0,.slice B ts.length bc] #[.int .i64 0,.slice none 0 0,.slice none 0 0]
 have hv0:=hv.up hb0
 have hpl:=p0.lt
 have hzl:=z0.lt
 have hsz:=szTy_valid hval
 have HC:=Lib.hid (fun W h=>specPart_any (.mk 3 sl sa) nm (.agg #[.int .i64 3,.slice L sl.length lc,.slice A sa.length ac]) W h (by omega))
 clear hv hval hs0
 go_enter Tryz.func149,Tryz.ntmps149
 go_wp2_with fail
 generalize ((w.alloc (.cells #[.int .i64 3,.slice L sl.length lc,.slice A sa.length ac] 27)).alloc (.cells #[.int .i64 2,.string nm,.int .i64 n0,.slice B ts.length bc] 30)).alloc (.cells #[.int .i64 0,.slice none 0 0,.slice none 0 0] 27)=w0 at *
 refine (HC.out w0 hv0).mono ?_
 rintro e w1 ⟨v2,rfl,hv2,hb1⟩
 have HV2:=hv2
 have HS:=Lib.hid (Nat.le_trans (sz_partB (s:=.mk 3 sl sa) (l:=nm)) (by omega:660≤2000))
 have HR:=Lib.hid (show (partB (.mk 3 sl sa) nm).map (·,(2:Int))=none∨(partB (.mk 3 sl sa) nm).map (·,(2:Int))=some ((partB (.mk 3 sl sa) nm).getD zeroTy,2) by cases partB (.mk 3 sl sa) nm<;>simp)
 have HB:=Lib.hid (show ((partB (.mk 3 sl sa) nm).map (·,(2:Int))).isSome=(partB (.mk 3 sl sa) nm).isSome by cases partB (.mk 3 sl sa) nm<;>rfl)
 generalize (partB (.mk 3 sl sa) nm).isSome=ok at *
 generalize (partB (.mk 3 sl sa) nm).getD zeroTy=rt at *
 obtain ⟨T1,U1,T2,U2,_,rfl,_⟩:=hv2.open
 have cb1:=hb0.trans (hb1.mono hb0.size)
 have hsb:=hb1.size
 have z1:=z0.below hb1 hzl
 have hb2:=(Below.refl w1.heap.size w1).alloc (Nat.le_refl _) (.cells #[.int .i64 rt.kind,.slice T1 rt.labels.length U1,.slice T2 rt.args.length U2] 27)
 have cb2:=cb1.trans (hb2.mono cb1.size)
 have z2:=z1.below hb2 z1.lt
 have HV3:=(HV2.keep (w':=(w1.alloc (.cells #[.int .i64 rt.kind,.slice T1 rt.labels.length U1,.slice T2 rt.args.length U2] 27))) (fun q _ hq=>hb2.block q hq)).wide (S':=Span w0.heap.size (w1.alloc (.cells #[.int .i64 rt.kind,.slice T1 rt.labels.length U1,.slice T2 rt.args.length U2] 27)).heap.size) (fun q hq=>⟨hq.1,Nat.lt_of_lt_of_le hq.2 hb2.size⟩)
 have HF:=Lib.hid (fun x y z=>(show SomePost ((partB (.mk 3 sl sa) nm).map (·,2)) w _ _ from ⟨_,rt,2,by rw [HB.out],(set3_in HV3 hzl (by omega) cb2 x y z).1,(set3_in HV3 hzl (by omega) cb2 x y z).2,HS.out,HR.out⟩))
 obtain ⟨d0,d1,d2⟩:=z2.c3
 obtain ⟨f0,f1,f2⟩:=z2.f3
 clear HV2 hv2 hb1 cb1 z1 hb0 p0 q0 z0 hsb hb2 cb2 z2 HV3
 go_wp2
 exact bodyPost_ret (v:=.tuple #[.agg #[.int .i64 rt.kind,.slice T1 rt.labels.length U1,.slice T2 rt.args.length U2],.int .i64 2,.bool ok]) (by simp [results,Tryz.results149,go_sem,d0,d1,d2]) rfl (HF.out _ _ _)
set_option maxHeartbeats 8000000 in
theorem leaf_case (sl:List ByteArray) (sa:List Ty) (L A B:Option Addr) (lc ac bc:Nat) (n0:Int) (nm:ByteArray) (ts:List Ot) (w:World) (hv:TyAt w w.heap.size (.agg #[.int .i64 4,.slice L sl.length lc,.slice A sa.length ac]) (.mk 4 sl sa)) (hval:validB (.mk 4 sl sa)=true):
  Calls Tryz.prog 149 #[.agg #[.int .i64 4,.slice L sl.length lc,.slice A sa.length ac],.agg #[.int .i64 3,.string nm,.int .i64 n0,.slice B ts.length bc]] w (SomePost ((partB (.mk 4 sl sa) nm).map (·,3)) w):=by
 obtain ⟨hb0,p0,q0,z0,hs0⟩:=boxes3 w 27 30 27 #[.int .i64 4,.slice L sl.length lc,.slice A sa.length ac] #[.int .i64 3,.string nm,.int .i64 n0,.slice B ts.length bc] #[.int .i64 0,.slice none 0 0,.slice none 0 0]
 have hv0:=hv.up hb0
 have hpl:=p0.lt
 have hzl:=z0.lt
 have hsz:=szTy_valid hval
 have HC:=Lib.hid (fun W h=>specPart_any (.mk 4 sl sa) nm (.agg #[.int .i64 4,.slice L sl.length lc,.slice A sa.length ac]) W h (by omega))
 clear hv hval hs0
 go_enter Tryz.func149,Tryz.ntmps149
 go_wp2_with fail
 generalize ((w.alloc (.cells #[.int .i64 4,.slice L sl.length lc,.slice A sa.length ac] 27)).alloc (.cells #[.int .i64 3,.string nm,.int .i64 n0,.slice B ts.length bc] 30)).alloc (.cells #[.int .i64 0,.slice none 0 0,.slice none 0 0] 27)=w0 at *
 refine (HC.out w0 hv0).mono ?_
 rintro e w1 ⟨v2,rfl,hv2,hb1⟩
 have HV2:=hv2
 have HS:=Lib.hid (Nat.le_trans (sz_partB (s:=.mk 4 sl sa) (l:=nm)) (by omega:660≤2000))
 have HR:=Lib.hid (show (partB (.mk 4 sl sa) nm).map (·,(3:Int))=none∨(partB (.mk 4 sl sa) nm).map (·,(3:Int))=some ((partB (.mk 4 sl sa) nm).getD zeroTy,3) by cases partB (.mk 4 sl sa) nm<;>simp)
 have HB:=Lib.hid (show ((partB (.mk 4 sl sa) nm).map (·,(3:Int))).isSome=(partB (.mk 4 sl sa) nm).isSome by cases partB (.mk 4 sl sa) nm<;>rfl)
 generalize (partB (.mk 4 sl sa) nm).isSome=ok at *
 generalize (partB (.mk 4 sl sa) nm).getD zeroTy=rt at *
 obtain ⟨T1,U1,T2,U2,_,rfl,_⟩:=hv2.open
 have cb1:=hb0.trans (hb1.mono hb0.size)
 have hsb:=hb1.size
 have z1:=z0.below hb1 hzl
 have hb2:=(Below.refl w1.heap.size w1).alloc (Nat.le_refl _) (.cells #[.int .i64 rt.kind,.slice T1 rt.labels.length U1,.slice T2 rt.args.length U2] 27)
 have cb2:=cb1.trans (hb2.mono cb1.size)
 have z2:=z1.below hb2 z1.lt
 have HV3:=(HV2.keep (w':=(w1.alloc (.cells #[.int .i64 rt.kind,.slice T1 rt.labels.length U1,.slice T2 rt.args.length U2] 27))) (fun q _ hq=>hb2.block q hq)).wide (S':=Span w0.heap.size (w1.alloc (.cells #[.int .i64 rt.kind,.slice T1 rt.labels.length U1,.slice T2 rt.args.length U2] 27)).heap.size) (fun q hq=>⟨hq.1,Nat.lt_of_lt_of_le hq.2 hb2.size⟩)
 have HF:=Lib.hid (fun x y z=>(show SomePost ((partB (.mk 4 sl sa) nm).map (·,3)) w _ _ from ⟨_,rt,3,by rw [HB.out],(set3_in HV3 hzl (by omega) cb2 x y z).1,(set3_in HV3 hzl (by omega) cb2 x y z).2,HS.out,HR.out⟩))
 obtain ⟨d0,d1,d2⟩:=z2.c3
 obtain ⟨f0,f1,f2⟩:=z2.f3
 clear HV2 hv2 hb1 cb1 z1 hb0 p0 q0 z0 hsb hb2 cb2 z2 HV3
 go_wp2
 exact bodyPost_ret (v:=.tuple #[.agg #[.int .i64 rt.kind,.slice T1 rt.labels.length U1,.slice T2 rt.args.length U2],.int .i64 3,.bool ok]) (by simp [results,Tryz.results149,go_sem,d0,d1,d2]) rfl (HF.out _ _ _)
set_option maxHeartbeats 8000000 in
theorem leaf_each (sl:List ByteArray) (e1:Ty) (L A B:Option Addr) (lc ac bc:Nat) (n0:Int) (nm:ByteArray) (ts:List Ot) (w:World) (hv:TyAt w w.heap.size (.agg #[.int .i64 5,.slice L sl.length lc,.slice A 1 ac]) (.mk 5 sl [e1])) (hval:validB (.mk 5 sl [e1])=true):
  Calls Tryz.prog 149 #[.agg #[.int .i64 5,.slice L sl.length lc,.slice A 1 ac],.agg #[.int .i64 4,.string nm,.int .i64 n0,.slice B ts.length bc]] w (SomePost (some (e1,5)) w):=by
 obtain ⟨hb0,p0,q0,z0,hs0⟩:=boxes3 w 27 30 27 #[.int .i64 5,.slice L sl.length lc,.slice A 1 ac] #[.int .i64 4,.string nm,.int .i64 n0,.slice B ts.length bc] #[.int .i64 0,.slice none 0 0,.slice none 0 0]
 have hv0:=hv.up hb0
 have hpl:=p0.lt
 have hzl:=z0.lt
 have hsz:=szTy_valid hval
 have ha:=args_at (ts:=[e1]) hv0
 have hse:szTy e1≤660:=sz_argV hval 0 (by simp [Ty.args])
 obtain ⟨b,off,M,mc,C,cc,rfl,hbl,x0,x1,x2,_,_,_,_,ht⟩:=ha.elem 0 (by simp)
 have ht0:TyAt _ _ (.agg #[.int .i64 e1.kind,.slice M e1.labels.length mc,.slice C e1.args.length cc]) e1:=ht
 have HT:=Lib.hid (specCopy_any e1 _ _ (ht0.more (Nat.le_refl _)) (by omega))
 have y0:=x0
 have y1:=x1
 have y2:=x2
 simp only [Nat.zero_mul,Nat.add_zero,List.getElem_cons_zero] at y0 y1 y2
 clear hv hval hs0 ha ht ht0 x0 x1 x2
 go_enter Tryz.func149,Tryz.ntmps149
 go_wp2_with fail
 generalize ((w.alloc (.cells #[.int .i64 5,.slice L sl.length lc,.slice (some ⟨b,off,none⟩) 1 ac] 27)).alloc (.cells #[.int .i64 4,.string nm,.int .i64 n0,.slice B ts.length bc] 30)).alloc (.cells #[.int .i64 0,.slice none 0 0,.slice none 0 0] 27)=w0 at *
 refine HT.out.mono ?_
 rintro e w1 ⟨v2,rfl,hv2,hb1⟩
 have HV2:=hv2
 obtain ⟨T1,U1,T2,U2,_,rfl,_⟩:=hv2.open
 have cb1:=hb0.trans (hb1.mono hb0.size)
 have hsb:=hb1.size
 have z1:=z0.below hb1 hzl
 have HF:=Lib.hid (fun x y z=>(show SomePost (some (e1,5)) w _ _ from ⟨_,e1,5,rfl,(set3_in HV2 hzl (by omega) cb1 x y z).1,(set3_in HV2 hzl (by omega) cb1 x y z).2,by omega,Or.inr rfl⟩))
 obtain ⟨d0,d1,d2⟩:=z1.c3
 obtain ⟨f0,f1,f2⟩:=z1.f3
 clear HV2 hv2 hb1 cb1 z1 hb0 p0 q0 z0 hsb
 go_wp2
 exact bodyPost_ret (v:=.tuple #[.agg #[.int .i64 e1.kind,.slice T1 e1.labels.length U1,.slice T2 e1.args.length U2],.int .i64 5,.bool true]) (by simp [results,Tryz.results149,go_sem,d0,d1,d2]) rfl (HF.out _ _ _)
set_option maxHeartbeats 8000000 in
theorem leaf_at (sl:List ByteArray) (e1:Ty) (L A B:Option Addr) (lc ac bc:Nat) (n0:Int) (nm:ByteArray) (ts:List Ot) (w:World) (hv:TyAt w w.heap.size (.agg #[.int .i64 5,.slice L sl.length lc,.slice A 1 ac]) (.mk 5 sl [e1])) (hval:validB (.mk 5 sl [e1])=true):
  Calls Tryz.prog 149 #[.agg #[.int .i64 5,.slice L sl.length lc,.slice A 1 ac],.agg #[.int .i64 6,.string nm,.int .i64 n0,.slice B ts.length bc]] w (SomePost (some (e1,4)) w):=by
 obtain ⟨hb0,p0,q0,z0,hs0⟩:=boxes3 w 27 30 27 #[.int .i64 5,.slice L sl.length lc,.slice A 1 ac] #[.int .i64 6,.string nm,.int .i64 n0,.slice B ts.length bc] #[.int .i64 0,.slice none 0 0,.slice none 0 0]
 have hv0:=hv.up hb0
 have hpl:=p0.lt
 have hzl:=z0.lt
 have hsz:=szTy_valid hval
 have ha:=args_at (ts:=[e1]) hv0
 have hse:szTy e1≤660:=sz_argV hval 0 (by simp [Ty.args])
 obtain ⟨b,off,M,mc,C,cc,rfl,hbl,x0,x1,x2,_,_,_,_,ht⟩:=ha.elem 0 (by simp)
 have ht0:TyAt _ _ (.agg #[.int .i64 e1.kind,.slice M e1.labels.length mc,.slice C e1.args.length cc]) e1:=ht
 have HT:=Lib.hid (specCopy_any e1 _ _ (ht0.more (Nat.le_refl _)) (by omega))
 have y0:=x0
 have y1:=x1
 have y2:=x2
 simp only [Nat.zero_mul,Nat.add_zero,List.getElem_cons_zero] at y0 y1 y2
 clear hv hval hs0 ha ht ht0 x0 x1 x2
 go_enter Tryz.func149,Tryz.ntmps149
 go_wp2_with fail
 generalize ((w.alloc (.cells #[.int .i64 5,.slice L sl.length lc,.slice (some ⟨b,off,none⟩) 1 ac] 27)).alloc (.cells #[.int .i64 6,.string nm,.int .i64 n0,.slice B ts.length bc] 30)).alloc (.cells #[.int .i64 0,.slice none 0 0,.slice none 0 0] 27)=w0 at *
 refine HT.out.mono ?_
 rintro e w1 ⟨v2,rfl,hv2,hb1⟩
 have HV2:=hv2
 obtain ⟨T1,U1,T2,U2,_,rfl,_⟩:=hv2.open
 have cb1:=hb0.trans (hb1.mono hb0.size)
 have hsb:=hb1.size
 have z1:=z0.below hb1 hzl
 have HF:=Lib.hid (fun x y z=>(show SomePost (some (e1,4)) w _ _ from ⟨_,e1,4,rfl,(set3_in HV2 hzl (by omega) cb1 x y z).1,(set3_in HV2 hzl (by omega) cb1 x y z).2,by omega,Or.inr rfl⟩))
 obtain ⟨d0,d1,d2⟩:=z1.c3
 obtain ⟨f0,f1,f2⟩:=z1.f3
 clear HV2 hv2 hb1 cb1 z1 hb0 p0 q0 z0 hsb
 go_wp2
 exact bodyPost_ret (v:=.tuple #[.agg #[.int .i64 e1.kind,.slice T1 e1.labels.length U1,.slice T2 e1.args.length U2],.int .i64 4,.bool true]) (by simp [results,Tryz.results149,go_sem,d0,d1,d2]) rfl (HF.out _ _ _)
set_option maxHeartbeats 8000000 in
theorem leaf_all (sk:Int) (sl:List ByteArray) (sa:List Ty) (L A B:Option Addr) (lc ac bc:Nat) (n0:Int) (nm:ByteArray) (ts:List Ot) (w:World) (hv:TyAt w w.heap.size (.agg #[.int .i64 sk,.slice L sl.length lc,.slice A sa.length ac]) (.mk sk sl sa)) (hval:validB (.mk sk sl sa)=true) (hu:uniformB (.mk sk sl sa)=true) (h0:0<sa.length):
  Calls Tryz.prog 149 #[.agg #[.int .i64 sk,.slice L sl.length lc,.slice A sa.length ac],.agg #[.int .i64 5,.string nm,.int .i64 n0,.slice B ts.length bc]] w (SomePost (some (sa[0],5)) w):=by
 obtain ⟨hb0,p0,q0,z0,hs0⟩:=boxes3 w 27 30 27 #[.int .i64 sk,.slice L sl.length lc,.slice A sa.length ac] #[.int .i64 5,.string nm,.int .i64 n0,.slice B ts.length bc] #[.int .i64 0,.slice none 0 0,.slice none 0 0]
 have hv0:=hv.up hb0
 have hpl:=p0.lt
 have hzl:=z0.lt
 have hsz:=szTy_valid hval
 have HU:=Lib.hid (fun W h=>(show Calls Tryz.prog 140 #[.agg #[.int .i64 sk,.slice L sl.length lc,.slice A sa.length ac]] W (BoolIs true W) from by have h1:=specUniform_any (.mk sk sl sa) (.agg #[.int .i64 sk,.slice L sl.length lc,.slice A sa.length ac]) W h (by omega);rw [hu] at h1;exact h1))
 have hse:szTy sa[0]≤660:=sz_argV (s:=.mk sk sl sa) hval 0 h0
 have ha0:=args_at hv
 have h0I:(0:Int)<(sa.length:Int):=by omega
 clear hv hval hs0 hu
 go_enter Tryz.func149,Tryz.ntmps149
 go_wp2_with fail
 generalize ((w.alloc (.cells #[.int .i64 sk,.slice L sl.length lc,.slice A sa.length ac] 27)).alloc (.cells #[.int .i64 5,.string nm,.int .i64 n0,.slice B ts.length bc] 30)).alloc (.cells #[.int .i64 0,.slice none 0 0,.slice none 0 0] 27)=w0 at *
 refine (HU.out w0 hv0).mono ?_
 rintro e wu ⟨rfl,hbu⟩
 have hbu0:=hb0.trans (hbu.mono hb0.size)
 have pu:=p0.below hbu hpl
 have qu:=q0.below hbu q0.lt
 have zu:=z0.below hbu hzl
 have hzl2:=zu.lt
 obtain ⟨a0,a1,a2⟩:=pu.c3
 obtain ⟨b0,b1,b2,b3⟩:=qu.c4
 obtain ⟨b,off,M,mc,C,cc,rfl,hbl,x0,x1,x2,_,_,_,_,ht⟩:=(ha0.below hbu0).elem 0 h0
 simp only [Nat.zero_mul,Nat.add_zero] at x0 x1 x2
 have hws:=hbu0.size
 have HT:=Lib.hid (specCopy_any sa[0] _ wu (ht.more (Nat.le_of_lt (Nat.lt_of_lt_of_le (Nat.lt_succ_self _) (by omega)))) (by omega))
 clear ha0 ht
 go_wp2_with fail
 refine HT.out.mono ?_
 rintro e w1 ⟨v2,rfl,hv2,hb1⟩
 have HV2:=hv2
 obtain ⟨T1,U1,T2,U2,_,rfl,_⟩:=hv2.open
 have cb1:=hbu0.trans (hb1.mono hbu0.size)
 have hsb:=hb1.size
 have z1:=zu.below hb1 hzl2
 have HF:=Lib.hid (fun x y z=>(show SomePost (some (sa[0],5)) w _ _ from ⟨_,sa[0],5,rfl,(set3_in HV2 hzl2 (by omega) cb1 x y z).1,(set3_in HV2 hzl2 (by omega) cb1 x y z).2,by omega,Or.inr rfl⟩))
 obtain ⟨d0,d1,d2⟩:=z1.c3
 obtain ⟨f0,f1,f2⟩:=z1.f3
 clear HV2 hv2 hb1 cb1 z1 hb0 p0 q0 z0 hsb hbu hbu0 pu qu zu a0 a1 a2 b0 b1 b2 b3
 go_wp2
 exact bodyPost_ret (v:=.tuple #[.agg #[.int .i64 sa[0].kind,.slice T1 sa[0].labels.length U1,.slice T2 sa[0].args.length U2],.int .i64 5,.bool true]) (by simp [results,Tryz.results149,go_sem,d0,d1,d2]) rfl (HF.out _ _ _)
set_option maxHeartbeats 8000000 in
theorem leaf_add (sl:List ByteArray) (sa:List Ty) (L A B:Option Addr) (lc ac bc:Nat) (n0:Int) (nm:ByteArray) (ts:List Ot) (w:World) (hv:TyAt w w.heap.size (.agg #[.int .i64 1,.slice L sl.length lc,.slice A sa.length ac]) (.mk 1 sl sa)) (hval:validB (.mk 1 sl sa)=true):
  Calls Tryz.prog 149 #[.agg #[.int .i64 1,.slice L sl.length lc,.slice A sa.length ac],.agg #[.int .i64 7,.string nm,.int .i64 n0,.slice B ts.length bc]] w (SomePost (some (Ty.mk 1 sl sa,(1:Int))) w):=by
 obtain ⟨hb0,p0,q0,z0,hs0⟩:=boxes3 w 27 30 27 #[.int .i64 1,.slice L sl.length lc,.slice A sa.length ac] #[.int .i64 7,.string nm,.int .i64 n0,.slice B ts.length bc] #[.int .i64 0,.slice none 0 0,.slice none 0 0]
 have hv0:=hv.up hb0
 have hpl:=p0.lt
 have hzl:=z0.lt
 have hsz:=szTy_valid hval
 have HC:=Lib.hid (fun W h=>specCopy_any (Ty.mk 1 sl sa) (.agg #[.int .i64 1,.slice L sl.length lc,.slice A sa.length ac]) W h (by omega))
 clear hv hval hs0
 go_enter Tryz.func149,Tryz.ntmps149
 go_upto_region 16 with fail
 generalize ((w.alloc (.cells #[.int .i64 1,.slice L sl.length lc,.slice A sa.length ac] 27)).alloc (.cells #[.int .i64 7,.string nm,.int .i64 n0,.slice B ts.length bc] 30)).alloc (.cells #[.int .i64 0,.slice none 0 0,.slice none 0 0] 27)=w0 at *
 obtain ⟨a0,a1,a2⟩:=p0.c3
 have hv0':=hv0.up (Below.refl w0.heap.size w0).drew
 go_region_held3 (fun x':World=>x'.cell? ⟨w.heap.size,0,none⟩=some (.int .i64 1)∧x'.cell? ⟨w.heap.size,1,none⟩=some (.slice L sl.length lc)∧x'.cell? ⟨w.heap.size,2,none⟩=some (.slice A sa.length ac)) (first | with_reducible exact ⟨a0,a1,a2⟩ | with_reducible exact ⟨k0,k1,k2⟩ | with_reducible exact ⟨l0,l1,l2⟩ | go_keep) (first | (go_simp;go_at_call 144;(with_reducible refine (HC.out _ hv0').mono ?_);rintro e w1 ⟨v2,rfl,hv2,hb1'⟩;have hb1:=(Below.refl w0.heap.size w0).drew.trans hb1';have HV2:=hv2;obtain ⟨T1,U1,T2,U2,_,rfl,_⟩:=hv2.open;have cb1:=hb0.trans (hb1.mono hb0.size);have hsb:=hb1.size;have z1:=z0.below hb1 hzl;have HF:=Lib.hid (fun x y z=>(show SomePost (some (Ty.mk 1 sl sa,(1:Int))) w _ _ from ⟨_,(Ty.mk 1 sl sa),1,rfl,(set3_in HV2 hzl (by omega) cb1 x y z).1,(set3_in HV2 hzl (by omega) cb1 x y z).2,by omega,Or.inr rfl⟩));obtain ⟨d0,d1,d2⟩:=z1.c3;obtain ⟨f0,f1,f2⟩:=z1.f3;obtain ⟨k0,k1,k2⟩:=(p0.below hb1 hpl).c3;have hne:w.heap.size+1+1≠w.heap.size:=(by omega);have l0:(((w1.setCell ⟨w.heap.size+1+1,0,none⟩ (.int .i64 (Ty.mk 1 sl sa).kind)).setCell ⟨w.heap.size+1+1,1,none⟩ (.slice T1 (Ty.mk 1 sl sa).labels.length U1)).setCell ⟨w.heap.size+1+1,2,none⟩ (.slice T2 (Ty.mk 1 sl sa).args.length U2)).cell? ⟨w.heap.size,0,none⟩=some (.int .i64 1):=set3_far _ _ _ _ k0 hne;have l1:(((w1.setCell ⟨w.heap.size+1+1,0,none⟩ (.int .i64 (Ty.mk 1 sl sa).kind)).setCell ⟨w.heap.size+1+1,1,none⟩ (.slice T1 (Ty.mk 1 sl sa).labels.length U1)).setCell ⟨w.heap.size+1+1,2,none⟩ (.slice T2 (Ty.mk 1 sl sa).args.length U2)).cell? ⟨w.heap.size,1,none⟩=some (.slice L sl.length lc):=set3_far _ _ _ _ k1 hne;have l2:(((w1.setCell ⟨w.heap.size+1+1,0,none⟩ (.int .i64 (Ty.mk 1 sl sa).kind)).setCell ⟨w.heap.size+1+1,1,none⟩ (.slice T1 (Ty.mk 1 sl sa).labels.length U1)).setCell ⟨w.heap.size+1+1,2,none⟩ (.slice T2 (Ty.mk 1 sl sa).args.length U2)).cell? ⟨w.heap.size,2,none⟩=some (.slice A sa.length ac):=set3_far _ _ _ _ k2 hne;clear HV2 hv2 cb1 z1 hsb hne))
 all_goals go_wp2
 all_goals exact bodyPost_ret (v:=.tuple #[.agg #[.int .i64 (Ty.mk 1 sl sa).kind,.slice T1 (Ty.mk 1 sl sa).labels.length U1,.slice T2 (Ty.mk 1 sl sa).args.length U2],.int .i64 1,.bool true]) (by simp [results,Tryz.results149,go_sem,d0,d1,d2]) rfl (HF.out _ _ _)
set_option maxHeartbeats 8000000 in
theorem leaf_addno (sk:Int) (sl:List ByteArray) (sa:List Ty) (L A B:Option Addr) (lc ac bc:Nat) (n0:Int) (nm:ByteArray) (ts:List Ot) (w:World) (hv:TyAt w w.heap.size (.agg #[.int .i64 sk,.slice L sl.length lc,.slice A sa.length ac]) (.mk sk sl sa)) (hval:validB (.mk sk sl sa)=true) (i9:(sk == 1)=false):
  Calls Tryz.prog 149 #[.agg #[.int .i64 sk,.slice L sl.length lc,.slice A sa.length ac],.agg #[.int .i64 7,.string nm,.int .i64 n0,.slice B ts.length bc]] w (SomePost ((none:Option (Ty×Int))) w):=by
 obtain ⟨hb0,p0,q0,z0,hs0⟩:=boxes3 w 27 30 27 #[.int .i64 sk,.slice L sl.length lc,.slice A sa.length ac] #[.int .i64 7,.string nm,.int .i64 n0,.slice B ts.length bc] #[.int .i64 0,.slice none 0 0,.slice none 0 0]
 have hv0:=hv.up hb0
 have hpl:=p0.lt
 have hzl:=z0.lt
 have hsz:=szTy_valid hval
 have HC:=Lib.hid (fun W h=>specCopy_any (Ty.mk sk sl sa) (.agg #[.int .i64 sk,.slice L sl.length lc,.slice A sa.length ac]) W h (by omega))
 clear hv hval hs0
 go_enter Tryz.func149,Tryz.ntmps149
 go_upto_region 16 with fail
 generalize ((w.alloc (.cells #[.int .i64 sk,.slice L sl.length lc,.slice A sa.length ac] 27)).alloc (.cells #[.int .i64 7,.string nm,.int .i64 n0,.slice B ts.length bc] 30)).alloc (.cells #[.int .i64 0,.slice none 0 0,.slice none 0 0] 27)=w0 at *
 obtain ⟨a0,a1,a2⟩:=p0.c3
 have hv0':=hv0.up (Below.refl w0.heap.size w0).drew
 go_region_held3 (fun x':World=>x'.cell? ⟨w.heap.size,0,none⟩=some (.int .i64 sk)∧x'.cell? ⟨w.heap.size,1,none⟩=some (.slice L sl.length lc)∧x'.cell? ⟨w.heap.size,2,none⟩=some (.slice A sa.length ac)) (first | with_reducible exact ⟨a0,a1,a2⟩ | with_reducible exact ⟨k0,k1,k2⟩ | with_reducible exact ⟨l0,l1,l2⟩ | go_keep) (first | (go_simp;go_at_call 144;(with_reducible refine (HC.out _ hv0').mono ?_);rintro e w1 ⟨v2,rfl,hv2,hb1'⟩;have hb1:=(Below.refl w0.heap.size w0).drew.trans hb1';have HV2:=hv2;obtain ⟨T1,U1,T2,U2,_,rfl,_⟩:=hv2.open;have cb1:=hb0.trans (hb1.mono hb0.size);have hsb:=hb1.size;have z1:=z0.below hb1 hzl;have HF:=Lib.hid (fun x y z=>(show SomePost ((none:Option (Ty×Int))) w _ _ from ⟨_,(Ty.mk sk sl sa),1,rfl,(set3_in HV2 hzl (by omega) cb1 x y z).1,(set3_in HV2 hzl (by omega) cb1 x y z).2,by omega,Or.inl rfl⟩));obtain ⟨d0,d1,d2⟩:=z1.c3;obtain ⟨f0,f1,f2⟩:=z1.f3;obtain ⟨k0,k1,k2⟩:=(p0.below hb1 hpl).c3;have hne:w.heap.size+1+1≠w.heap.size:=(by omega);have l0:(((w1.setCell ⟨w.heap.size+1+1,0,none⟩ (.int .i64 (Ty.mk sk sl sa).kind)).setCell ⟨w.heap.size+1+1,1,none⟩ (.slice T1 (Ty.mk sk sl sa).labels.length U1)).setCell ⟨w.heap.size+1+1,2,none⟩ (.slice T2 (Ty.mk sk sl sa).args.length U2)).cell? ⟨w.heap.size,0,none⟩=some (.int .i64 sk):=set3_far _ _ _ _ k0 hne;have l1:(((w1.setCell ⟨w.heap.size+1+1,0,none⟩ (.int .i64 (Ty.mk sk sl sa).kind)).setCell ⟨w.heap.size+1+1,1,none⟩ (.slice T1 (Ty.mk sk sl sa).labels.length U1)).setCell ⟨w.heap.size+1+1,2,none⟩ (.slice T2 (Ty.mk sk sl sa).args.length U2)).cell? ⟨w.heap.size,1,none⟩=some (.slice L sl.length lc):=set3_far _ _ _ _ k1 hne;have l2:(((w1.setCell ⟨w.heap.size+1+1,0,none⟩ (.int .i64 (Ty.mk sk sl sa).kind)).setCell ⟨w.heap.size+1+1,1,none⟩ (.slice T1 (Ty.mk sk sl sa).labels.length U1)).setCell ⟨w.heap.size+1+1,2,none⟩ (.slice T2 (Ty.mk sk sl sa).args.length U2)).cell? ⟨w.heap.size,2,none⟩=some (.slice A sa.length ac):=set3_far _ _ _ _ k2 hne;clear HV2 hv2 cb1 z1 hsb hne))
 all_goals go_wp2
 all_goals exact bodyPost_ret (v:=.tuple #[.agg #[.int .i64 (Ty.mk sk sl sa).kind,.slice T1 (Ty.mk sk sl sa).labels.length U1,.slice T2 (Ty.mk sk sl sa).args.length U2],.int .i64 1,.bool false]) (by simp [results,Tryz.results149,go_sem,d0,d1,d2]) rfl (HF.out _ _ _)
set_option maxHeartbeats 8000000 in
theorem leaf_not (sl:List ByteArray) (sa:List Ty) (L A B:Option Addr) (lc ac bc:Nat) (n0:Int) (nm:ByteArray) (ts:List Ot) (w:World) (hv:TyAt w w.heap.size (.agg #[.int .i64 2,.slice L sl.length lc,.slice A sa.length ac]) (.mk 2 sl sa)) (hval:validB (.mk 2 sl sa)=true):
  Calls Tryz.prog 149 #[.agg #[.int .i64 2,.slice L sl.length lc,.slice A sa.length ac],.agg #[.int .i64 8,.string nm,.int .i64 n0,.slice B ts.length bc]] w (SomePost (some (Ty.mk 2 sl sa,(1:Int))) w):=by
 obtain ⟨hb0,p0,q0,z0,hs0⟩:=boxes3 w 27 30 27 #[.int .i64 2,.slice L sl.length lc,.slice A sa.length ac] #[.int .i64 8,.string nm,.int .i64 n0,.slice B ts.length bc] #[.int .i64 0,.slice none 0 0,.slice none 0 0]
 have hv0:=hv.up hb0
 have hpl:=p0.lt
 have hzl:=z0.lt
 have hsz:=szTy_valid hval
 have HC:=Lib.hid (fun W h=>specCopy_any (Ty.mk 2 sl sa) (.agg #[.int .i64 2,.slice L sl.length lc,.slice A sa.length ac]) W h (by omega))
 clear hv hval hs0
 go_enter Tryz.func149,Tryz.ntmps149
 go_upto_region 18 with fail
 generalize ((w.alloc (.cells #[.int .i64 2,.slice L sl.length lc,.slice A sa.length ac] 27)).alloc (.cells #[.int .i64 8,.string nm,.int .i64 n0,.slice B ts.length bc] 30)).alloc (.cells #[.int .i64 0,.slice none 0 0,.slice none 0 0] 27)=w0 at *
 obtain ⟨a0,a1,a2⟩:=p0.c3
 have hv0':=hv0.up (Below.refl w0.heap.size w0).drew
 go_region_held3 (fun x':World=>x'.cell? ⟨w.heap.size,0,none⟩=some (.int .i64 2)∧x'.cell? ⟨w.heap.size,1,none⟩=some (.slice L sl.length lc)∧x'.cell? ⟨w.heap.size,2,none⟩=some (.slice A sa.length ac)) (first | with_reducible exact ⟨a0,a1,a2⟩ | with_reducible exact ⟨k0,k1,k2⟩ | with_reducible exact ⟨l0,l1,l2⟩ | go_keep) (first | (go_simp;go_at_call 144;(with_reducible refine (HC.out _ hv0').mono ?_);rintro e w1 ⟨v2,rfl,hv2,hb1'⟩;have hb1:=(Below.refl w0.heap.size w0).drew.trans hb1';have HV2:=hv2;obtain ⟨T1,U1,T2,U2,_,rfl,_⟩:=hv2.open;have cb1:=hb0.trans (hb1.mono hb0.size);have hsb:=hb1.size;have z1:=z0.below hb1 hzl;have HF:=Lib.hid (fun x y z=>(show SomePost (some (Ty.mk 2 sl sa,(1:Int))) w _ _ from ⟨_,(Ty.mk 2 sl sa),1,rfl,(set3_in HV2 hzl (by omega) cb1 x y z).1,(set3_in HV2 hzl (by omega) cb1 x y z).2,by omega,Or.inr rfl⟩));obtain ⟨d0,d1,d2⟩:=z1.c3;obtain ⟨f0,f1,f2⟩:=z1.f3;obtain ⟨k0,k1,k2⟩:=(p0.below hb1 hpl).c3;have hne:w.heap.size+1+1≠w.heap.size:=(by omega);have l0:(((w1.setCell ⟨w.heap.size+1+1,0,none⟩ (.int .i64 (Ty.mk 2 sl sa).kind)).setCell ⟨w.heap.size+1+1,1,none⟩ (.slice T1 (Ty.mk 2 sl sa).labels.length U1)).setCell ⟨w.heap.size+1+1,2,none⟩ (.slice T2 (Ty.mk 2 sl sa).args.length U2)).cell? ⟨w.heap.size,0,none⟩=some (.int .i64 2):=set3_far _ _ _ _ k0 hne;have l1:(((w1.setCell ⟨w.heap.size+1+1,0,none⟩ (.int .i64 (Ty.mk 2 sl sa).kind)).setCell ⟨w.heap.size+1+1,1,none⟩ (.slice T1 (Ty.mk 2 sl sa).labels.length U1)).setCell ⟨w.heap.size+1+1,2,none⟩ (.slice T2 (Ty.mk 2 sl sa).args.length U2)).cell? ⟨w.heap.size,1,none⟩=some (.slice L sl.length lc):=set3_far _ _ _ _ k1 hne;have l2:(((w1.setCell ⟨w.heap.size+1+1,0,none⟩ (.int .i64 (Ty.mk 2 sl sa).kind)).setCell ⟨w.heap.size+1+1,1,none⟩ (.slice T1 (Ty.mk 2 sl sa).labels.length U1)).setCell ⟨w.heap.size+1+1,2,none⟩ (.slice T2 (Ty.mk 2 sl sa).args.length U2)).cell? ⟨w.heap.size,2,none⟩=some (.slice A sa.length ac):=set3_far _ _ _ _ k2 hne;clear HV2 hv2 cb1 z1 hsb hne))
 all_goals go_wp2
 all_goals exact bodyPost_ret (v:=.tuple #[.agg #[.int .i64 (Ty.mk 2 sl sa).kind,.slice T1 (Ty.mk 2 sl sa).labels.length U1,.slice T2 (Ty.mk 2 sl sa).args.length U2],.int .i64 1,.bool true]) (by simp [results,Tryz.results149,go_sem,d0,d1,d2]) rfl (HF.out _ _ _)
set_option maxHeartbeats 8000000 in
theorem leaf_notno (sk:Int) (sl:List ByteArray) (sa:List Ty) (L A B:Option Addr) (lc ac bc:Nat) (n0:Int) (nm:ByteArray) (ts:List Ot) (w:World) (hv:TyAt w w.heap.size (.agg #[.int .i64 sk,.slice L sl.length lc,.slice A sa.length ac]) (.mk sk sl sa)) (hval:validB (.mk sk sl sa)=true) (i9:(sk == 2)=false):
  Calls Tryz.prog 149 #[.agg #[.int .i64 sk,.slice L sl.length lc,.slice A sa.length ac],.agg #[.int .i64 8,.string nm,.int .i64 n0,.slice B ts.length bc]] w (SomePost ((none:Option (Ty×Int))) w):=by
 obtain ⟨hb0,p0,q0,z0,hs0⟩:=boxes3 w 27 30 27 #[.int .i64 sk,.slice L sl.length lc,.slice A sa.length ac] #[.int .i64 8,.string nm,.int .i64 n0,.slice B ts.length bc] #[.int .i64 0,.slice none 0 0,.slice none 0 0]
 have hv0:=hv.up hb0
 have hpl:=p0.lt
 have hzl:=z0.lt
 have hsz:=szTy_valid hval
 have HC:=Lib.hid (fun W h=>specCopy_any (Ty.mk sk sl sa) (.agg #[.int .i64 sk,.slice L sl.length lc,.slice A sa.length ac]) W h (by omega))
 clear hv hval hs0
 go_enter Tryz.func149,Tryz.ntmps149
 go_upto_region 18 with fail
 generalize ((w.alloc (.cells #[.int .i64 sk,.slice L sl.length lc,.slice A sa.length ac] 27)).alloc (.cells #[.int .i64 8,.string nm,.int .i64 n0,.slice B ts.length bc] 30)).alloc (.cells #[.int .i64 0,.slice none 0 0,.slice none 0 0] 27)=w0 at *
 obtain ⟨a0,a1,a2⟩:=p0.c3
 have hv0':=hv0.up (Below.refl w0.heap.size w0).drew
 go_region_held3 (fun x':World=>x'.cell? ⟨w.heap.size,0,none⟩=some (.int .i64 sk)∧x'.cell? ⟨w.heap.size,1,none⟩=some (.slice L sl.length lc)∧x'.cell? ⟨w.heap.size,2,none⟩=some (.slice A sa.length ac)) (first | with_reducible exact ⟨a0,a1,a2⟩ | with_reducible exact ⟨k0,k1,k2⟩ | with_reducible exact ⟨l0,l1,l2⟩ | go_keep) (first | (go_simp;go_at_call 144;(with_reducible refine (HC.out _ hv0').mono ?_);rintro e w1 ⟨v2,rfl,hv2,hb1'⟩;have hb1:=(Below.refl w0.heap.size w0).drew.trans hb1';have HV2:=hv2;obtain ⟨T1,U1,T2,U2,_,rfl,_⟩:=hv2.open;have cb1:=hb0.trans (hb1.mono hb0.size);have hsb:=hb1.size;have z1:=z0.below hb1 hzl;have HF:=Lib.hid (fun x y z=>(show SomePost ((none:Option (Ty×Int))) w _ _ from ⟨_,(Ty.mk sk sl sa),1,rfl,(set3_in HV2 hzl (by omega) cb1 x y z).1,(set3_in HV2 hzl (by omega) cb1 x y z).2,by omega,Or.inl rfl⟩));obtain ⟨d0,d1,d2⟩:=z1.c3;obtain ⟨f0,f1,f2⟩:=z1.f3;obtain ⟨k0,k1,k2⟩:=(p0.below hb1 hpl).c3;have hne:w.heap.size+1+1≠w.heap.size:=(by omega);have l0:(((w1.setCell ⟨w.heap.size+1+1,0,none⟩ (.int .i64 (Ty.mk sk sl sa).kind)).setCell ⟨w.heap.size+1+1,1,none⟩ (.slice T1 (Ty.mk sk sl sa).labels.length U1)).setCell ⟨w.heap.size+1+1,2,none⟩ (.slice T2 (Ty.mk sk sl sa).args.length U2)).cell? ⟨w.heap.size,0,none⟩=some (.int .i64 sk):=set3_far _ _ _ _ k0 hne;have l1:(((w1.setCell ⟨w.heap.size+1+1,0,none⟩ (.int .i64 (Ty.mk sk sl sa).kind)).setCell ⟨w.heap.size+1+1,1,none⟩ (.slice T1 (Ty.mk sk sl sa).labels.length U1)).setCell ⟨w.heap.size+1+1,2,none⟩ (.slice T2 (Ty.mk sk sl sa).args.length U2)).cell? ⟨w.heap.size,1,none⟩=some (.slice L sl.length lc):=set3_far _ _ _ _ k1 hne;have l2:(((w1.setCell ⟨w.heap.size+1+1,0,none⟩ (.int .i64 (Ty.mk sk sl sa).kind)).setCell ⟨w.heap.size+1+1,1,none⟩ (.slice T1 (Ty.mk sk sl sa).labels.length U1)).setCell ⟨w.heap.size+1+1,2,none⟩ (.slice T2 (Ty.mk sk sl sa).args.length U2)).cell? ⟨w.heap.size,2,none⟩=some (.slice A sa.length ac):=set3_far _ _ _ _ k2 hne;clear HV2 hv2 cb1 z1 hsb hne))
 all_goals go_wp2
 all_goals exact bodyPost_ret (v:=.tuple #[.agg #[.int .i64 (Ty.mk sk sl sa).kind,.slice T1 (Ty.mk sk sl sa).labels.length U1,.slice T2 (Ty.mk sk sl sa).args.length U2],.int .i64 1,.bool false]) (by simp [results,Tryz.results149,go_sem,d0,d1,d2]) rfl (HF.out _ _ _)
set_option maxHeartbeats 8000000 in
theorem leaf_rev (sl:List ByteArray) (sa:List Ty) (L A B:Option Addr) (lc ac bc:Nat) (n0:Int) (nm:ByteArray) (ts:List Ot) (w:World) (hv:TyAt w w.heap.size (.agg #[.int .i64 5,.slice L sl.length lc,.slice A sa.length ac]) (.mk 5 sl sa)) (hval:validB (.mk 5 sl sa)=true):
  Calls Tryz.prog 149 #[.agg #[.int .i64 5,.slice L sl.length lc,.slice A sa.length ac],.agg #[.int .i64 9,.string nm,.int .i64 n0,.slice B ts.length bc]] w (SomePost (some (Ty.mk 5 sl sa,(1:Int))) w):=by
 obtain ⟨hb0,p0,q0,z0,hs0⟩:=boxes3 w 27 30 27 #[.int .i64 5,.slice L sl.length lc,.slice A sa.length ac] #[.int .i64 9,.string nm,.int .i64 n0,.slice B ts.length bc] #[.int .i64 0,.slice none 0 0,.slice none 0 0]
 have hv0:=hv.up hb0
 have hpl:=p0.lt
 have hzl:=z0.lt
 have hsz:=szTy_valid hval
 have HC:=Lib.hid (fun W h=>specCopy_any (Ty.mk 5 sl sa) (.agg #[.int .i64 5,.slice L sl.length lc,.slice A sa.length ac]) W h (by omega))
 clear hv hval hs0
 go_enter Tryz.func149,Tryz.ntmps149
 go_upto_region 20 with fail
 generalize ((w.alloc (.cells #[.int .i64 5,.slice L sl.length lc,.slice A sa.length ac] 27)).alloc (.cells #[.int .i64 9,.string nm,.int .i64 n0,.slice B ts.length bc] 30)).alloc (.cells #[.int .i64 0,.slice none 0 0,.slice none 0 0] 27)=w0 at *
 obtain ⟨a0,a1,a2⟩:=p0.c3
 have hv0':=hv0.up (Below.refl w0.heap.size w0).drew
 go_region_held3 (fun x':World=>x'.cell? ⟨w.heap.size,0,none⟩=some (.int .i64 5)∧x'.cell? ⟨w.heap.size,1,none⟩=some (.slice L sl.length lc)∧x'.cell? ⟨w.heap.size,2,none⟩=some (.slice A sa.length ac)) (first | with_reducible exact ⟨a0,a1,a2⟩ | with_reducible exact ⟨k0,k1,k2⟩ | with_reducible exact ⟨l0,l1,l2⟩ | go_keep) (first | (go_simp;go_at_call 144;(with_reducible refine (HC.out _ hv0').mono ?_);rintro e w1 ⟨v2,rfl,hv2,hb1'⟩;have hb1:=(Below.refl w0.heap.size w0).drew.trans hb1';have HV2:=hv2;obtain ⟨T1,U1,T2,U2,_,rfl,_⟩:=hv2.open;have cb1:=hb0.trans (hb1.mono hb0.size);have hsb:=hb1.size;have z1:=z0.below hb1 hzl;have HF:=Lib.hid (fun x y z=>(show SomePost (some (Ty.mk 5 sl sa,(1:Int))) w _ _ from ⟨_,(Ty.mk 5 sl sa),1,rfl,(set3_in HV2 hzl (by omega) cb1 x y z).1,(set3_in HV2 hzl (by omega) cb1 x y z).2,by omega,Or.inr rfl⟩));obtain ⟨d0,d1,d2⟩:=z1.c3;obtain ⟨f0,f1,f2⟩:=z1.f3;obtain ⟨k0,k1,k2⟩:=(p0.below hb1 hpl).c3;have hne:w.heap.size+1+1≠w.heap.size:=(by omega);have l0:(((w1.setCell ⟨w.heap.size+1+1,0,none⟩ (.int .i64 (Ty.mk 5 sl sa).kind)).setCell ⟨w.heap.size+1+1,1,none⟩ (.slice T1 (Ty.mk 5 sl sa).labels.length U1)).setCell ⟨w.heap.size+1+1,2,none⟩ (.slice T2 (Ty.mk 5 sl sa).args.length U2)).cell? ⟨w.heap.size,0,none⟩=some (.int .i64 5):=set3_far _ _ _ _ k0 hne;have l1:(((w1.setCell ⟨w.heap.size+1+1,0,none⟩ (.int .i64 (Ty.mk 5 sl sa).kind)).setCell ⟨w.heap.size+1+1,1,none⟩ (.slice T1 (Ty.mk 5 sl sa).labels.length U1)).setCell ⟨w.heap.size+1+1,2,none⟩ (.slice T2 (Ty.mk 5 sl sa).args.length U2)).cell? ⟨w.heap.size,1,none⟩=some (.slice L sl.length lc):=set3_far _ _ _ _ k1 hne;have l2:(((w1.setCell ⟨w.heap.size+1+1,0,none⟩ (.int .i64 (Ty.mk 5 sl sa).kind)).setCell ⟨w.heap.size+1+1,1,none⟩ (.slice T1 (Ty.mk 5 sl sa).labels.length U1)).setCell ⟨w.heap.size+1+1,2,none⟩ (.slice T2 (Ty.mk 5 sl sa).args.length U2)).cell? ⟨w.heap.size,2,none⟩=some (.slice A sa.length ac):=set3_far _ _ _ _ k2 hne;clear HV2 hv2 cb1 z1 hsb hne))
 all_goals go_wp2
 all_goals exact bodyPost_ret (v:=.tuple #[.agg #[.int .i64 (Ty.mk 5 sl sa).kind,.slice T1 (Ty.mk 5 sl sa).labels.length U1,.slice T2 (Ty.mk 5 sl sa).args.length U2],.int .i64 1,.bool true]) (by simp [results,Tryz.results149,go_sem,d0,d1,d2]) rfl (HF.out _ _ _)
set_option maxHeartbeats 8000000 in
theorem leaf_revno (sk:Int) (sl:List ByteArray) (sa:List Ty) (L A B:Option Addr) (lc ac bc:Nat) (n0:Int) (nm:ByteArray) (ts:List Ot) (w:World) (hv:TyAt w w.heap.size (.agg #[.int .i64 sk,.slice L sl.length lc,.slice A sa.length ac]) (.mk sk sl sa)) (hval:validB (.mk sk sl sa)=true) (i9:(sk == 5)=false):
  Calls Tryz.prog 149 #[.agg #[.int .i64 sk,.slice L sl.length lc,.slice A sa.length ac],.agg #[.int .i64 9,.string nm,.int .i64 n0,.slice B ts.length bc]] w (SomePost ((none:Option (Ty×Int))) w):=by
 obtain ⟨hb0,p0,q0,z0,hs0⟩:=boxes3 w 27 30 27 #[.int .i64 sk,.slice L sl.length lc,.slice A sa.length ac] #[.int .i64 9,.string nm,.int .i64 n0,.slice B ts.length bc] #[.int .i64 0,.slice none 0 0,.slice none 0 0]
 have hv0:=hv.up hb0
 have hpl:=p0.lt
 have hzl:=z0.lt
 have hsz:=szTy_valid hval
 have HC:=Lib.hid (fun W h=>specCopy_any (Ty.mk sk sl sa) (.agg #[.int .i64 sk,.slice L sl.length lc,.slice A sa.length ac]) W h (by omega))
 clear hv hval hs0
 go_enter Tryz.func149,Tryz.ntmps149
 go_upto_region 20 with fail
 generalize ((w.alloc (.cells #[.int .i64 sk,.slice L sl.length lc,.slice A sa.length ac] 27)).alloc (.cells #[.int .i64 9,.string nm,.int .i64 n0,.slice B ts.length bc] 30)).alloc (.cells #[.int .i64 0,.slice none 0 0,.slice none 0 0] 27)=w0 at *
 obtain ⟨a0,a1,a2⟩:=p0.c3
 have hv0':=hv0.up (Below.refl w0.heap.size w0).drew
 go_region_held3 (fun x':World=>x'.cell? ⟨w.heap.size,0,none⟩=some (.int .i64 sk)∧x'.cell? ⟨w.heap.size,1,none⟩=some (.slice L sl.length lc)∧x'.cell? ⟨w.heap.size,2,none⟩=some (.slice A sa.length ac)) (first | with_reducible exact ⟨a0,a1,a2⟩ | with_reducible exact ⟨k0,k1,k2⟩ | with_reducible exact ⟨l0,l1,l2⟩ | go_keep) (first | (go_simp;go_at_call 144;(with_reducible refine (HC.out _ hv0').mono ?_);rintro e w1 ⟨v2,rfl,hv2,hb1'⟩;have hb1:=(Below.refl w0.heap.size w0).drew.trans hb1';have HV2:=hv2;obtain ⟨T1,U1,T2,U2,_,rfl,_⟩:=hv2.open;have cb1:=hb0.trans (hb1.mono hb0.size);have hsb:=hb1.size;have z1:=z0.below hb1 hzl;have HF:=Lib.hid (fun x y z=>(show SomePost ((none:Option (Ty×Int))) w _ _ from ⟨_,(Ty.mk sk sl sa),1,rfl,(set3_in HV2 hzl (by omega) cb1 x y z).1,(set3_in HV2 hzl (by omega) cb1 x y z).2,by omega,Or.inl rfl⟩));obtain ⟨d0,d1,d2⟩:=z1.c3;obtain ⟨f0,f1,f2⟩:=z1.f3;obtain ⟨k0,k1,k2⟩:=(p0.below hb1 hpl).c3;have hne:w.heap.size+1+1≠w.heap.size:=(by omega);have l0:(((w1.setCell ⟨w.heap.size+1+1,0,none⟩ (.int .i64 (Ty.mk sk sl sa).kind)).setCell ⟨w.heap.size+1+1,1,none⟩ (.slice T1 (Ty.mk sk sl sa).labels.length U1)).setCell ⟨w.heap.size+1+1,2,none⟩ (.slice T2 (Ty.mk sk sl sa).args.length U2)).cell? ⟨w.heap.size,0,none⟩=some (.int .i64 sk):=set3_far _ _ _ _ k0 hne;have l1:(((w1.setCell ⟨w.heap.size+1+1,0,none⟩ (.int .i64 (Ty.mk sk sl sa).kind)).setCell ⟨w.heap.size+1+1,1,none⟩ (.slice T1 (Ty.mk sk sl sa).labels.length U1)).setCell ⟨w.heap.size+1+1,2,none⟩ (.slice T2 (Ty.mk sk sl sa).args.length U2)).cell? ⟨w.heap.size,1,none⟩=some (.slice L sl.length lc):=set3_far _ _ _ _ k1 hne;have l2:(((w1.setCell ⟨w.heap.size+1+1,0,none⟩ (.int .i64 (Ty.mk sk sl sa).kind)).setCell ⟨w.heap.size+1+1,1,none⟩ (.slice T1 (Ty.mk sk sl sa).labels.length U1)).setCell ⟨w.heap.size+1+1,2,none⟩ (.slice T2 (Ty.mk sk sl sa).args.length U2)).cell? ⟨w.heap.size,2,none⟩=some (.slice A sa.length ac):=set3_far _ _ _ _ k2 hne;clear HV2 hv2 cb1 z1 hsb hne))
 all_goals go_wp2
 all_goals exact bodyPost_ret (v:=.tuple #[.agg #[.int .i64 (Ty.mk sk sl sa).kind,.slice T1 (Ty.mk sk sl sa).labels.length U1,.slice T2 (Ty.mk sk sl sa).args.length U2],.int .i64 1,.bool false]) (by simp [results,Tryz.results149,go_sem,d0,d1,d2]) rfl (HF.out _ _ _)
set_option maxHeartbeats 8000000 in
theorem leaf_wrap (sk:Int) (sl:List ByteArray) (sa:List Ty) (L A B:Option Addr) (lc ac bc:Nat) (n0:Int) (nm:ByteArray) (ts:List Ot) (w:World) (hv:TyAt w w.heap.size (.agg #[.int .i64 sk,.slice L sl.length lc,.slice A sa.length ac]) (.mk sk sl sa)) (hval:validB (.mk sk sl sa)=true) (hnm:nm.size≤1000):
  Calls Tryz.prog 149 #[.agg #[.int .i64 sk,.slice L sl.length lc,.slice A sa.length ac],.agg #[.int .i64 10,.string nm,.int .i64 n0,.slice B ts.length bc]] w (SomePost (some ((Ty.mk 3 [nm] [Ty.mk sk sl sa]),1)) w):=by
 obtain ⟨hb0,p0,q0,z0,hs0⟩:=boxes3 w 27 30 27 #[.int .i64 sk,.slice L sl.length lc,.slice A sa.length ac] #[.int .i64 10,.string nm,.int .i64 n0,.slice B ts.length bc] #[.int .i64 0,.slice none 0 0,.slice none 0 0]
 have hv0:=hv.up hb0
 have hpl:=p0.lt
 have hzl:=z0.lt
 have hsz:=szTy_valid hval
 obtain ⟨hb8,u8,t8,_⟩:=boxes2 (((w.alloc (.cells #[.int .i64 sk,.slice L sl.length lc,.slice A sa.length ac] 27)).alloc (.cells #[.int .i64 10,.string nm,.int .i64 n0,.slice B ts.length bc] 30)).alloc (.cells #[.int .i64 0,.slice none 0 0,.slice none 0 0] 27)) 9 27 #[.string nm] #[.int .i64 sk,.slice L sl.length lc,.slice A sa.length ac]
 rw [hs0] at u8 t8
 have HLB:=Lib.hid (l3Labeled_any 3 [nm] [.mk sk sl sa] (some ⟨w.heap.size+3,0,none⟩) (some ⟨w.heap.size+3+1,0,none⟩) 1 1 _ (StrsAt.of_whole (ss:=[nm]) u8 _ u8.lt) (by intro i hi;obtain rfl:i=0:=(by simpa using hi);simp only [List.getElem_cons_zero];unfold maxLen;omega) (one_tys t8 (hv0.up hb8)) (by simp) (by simp) (by intro i hi;obtain rfl:i=0:=(by simpa using hi);simp only [List.getElem_cons_zero];omega))
 clear hv hval u8 t8
 go_enter Tryz.func149,Tryz.ntmps149
 go_wp2_with fail
 generalize ((w.alloc (.cells #[.int .i64 sk,.slice L sl.length lc,.slice A sa.length ac] 27)).alloc (.cells #[.int .i64 10,.string nm,.int .i64 n0,.slice B ts.length bc] 30)).alloc (.cells #[.int .i64 0,.slice none 0 0,.slice none 0 0] 27)=w0 at *
 have hb9:=hb0.trans (hb8.mono hb0.size)
 have zw:=z0.below hb8 hzl
 have hzl2:=zw.lt
 have h8s:=hb8.size
 generalize (w0.alloc (.cells #[.string nm] 9)).alloc (.cells #[.int .i64 sk,.slice L sl.length lc,.slice A sa.length ac] 27)=w8 at *
 refine HLB.out.mono ?_
 rintro e w1 ⟨v2,rfl,hO2,hb1⟩
 have HV2:=hO2.owned
 obtain ⟨T1,U1,T2,U2,rfl⟩:=hO2.open
 have cb1:=hb9.trans (hb1.mono hb9.size)
 have z1:=zw.below hb1 hzl2
 have hzz:szTy (Ty.mk 3 [nm] [Ty.mk sk sl sa])≤2000:=by
  have h1:=szTy_eq (Ty.mk 3 [nm] [Ty.mk sk sl sa])
  simp [Ty.labels,Ty.args,sumSizes,szTys] at h1
  omega
 have HF:=Lib.hid (fun x y z=>(show SomePost (some ((Ty.mk 3 [nm] [Ty.mk sk sl sa]),1)) w _ _ from ⟨_,(Ty.mk 3 [nm] [Ty.mk sk sl sa]),1,rfl,(set3_in HV2 hzl2 (by omega) cb1 x y z).1,(set3_in HV2 hzl2 (by omega) cb1 x y z).2,hzz,Or.inr rfl⟩))
 obtain ⟨d0,d1,d2⟩:=z1.c3
 obtain ⟨f0,f1,f2⟩:=z1.f3
 clear HV2 hO2 hb1 cb1 z1 hb0 hb8 hb9 p0 q0 z0 zw hzz hs0 h8s
 go_wp2
 exact bodyPost_ret (v:=.tuple #[.agg #[.int .i64 (Ty.mk 3 [nm] [Ty.mk sk sl sa]).kind,.slice T1 (Ty.mk 3 [nm] [Ty.mk sk sl sa]).labels.length U1,.slice T2 (Ty.mk 3 [nm] [Ty.mk sk sl sa]).args.length U2],.int .i64 1,.bool true]) (by simp [results,Tryz.results149,go_sem,d0,d1,d2]) rfl (HF.out _ _ _)
set_option maxHeartbeats 8000000 in
theorem leaf_no2 (sk:Int) (sl:List ByteArray) (sa:List Ty) (L A B:Option Addr) (lc ac bc:Nat) (n0:Int) (nm:ByteArray) (ts:List Ot) (w:World) (hv:TyAt w w.heap.size (.agg #[.int .i64 sk,.slice L sl.length lc,.slice A sa.length ac]) (.mk sk sl sa)) (hval:validB (.mk sk sl sa)=true) (i9:(sk == 3)=false):
  Calls Tryz.prog 149 #[.agg #[.int .i64 sk,.slice L sl.length lc,.slice A sa.length ac],.agg #[.int .i64 2,.string nm,.int .i64 n0,.slice B ts.length bc]] w (SomePost ((none:Option (Ty×Int))) w):=by
 obtain ⟨hb0,p0,q0,z0,hs0⟩:=boxes3 w 27 30 27 #[.int .i64 sk,.slice L sl.length lc,.slice A sa.length ac] #[.int .i64 2,.string nm,.int .i64 n0,.slice B ts.length bc] #[.int .i64 0,.slice none 0 0,.slice none 0 0]
 have hv0:=hv.up hb0
 have hpl:=p0.lt
 have hzl:=z0.lt
 have hsz:=szTy_valid hval
 have HF:=Lib.hid (show SomePost none w (.returned (.tuple #[.agg #[.int .i64 0,.slice none 0 0,.slice none 0 0],.int .i64 0,.bool false])) (((w.alloc (.cells #[.int .i64 sk,.slice L sl.length lc,.slice A sa.length ac] 27)).alloc (.cells #[.int .i64 2,.string nm,.int .i64 n0,.slice B ts.length bc] 30)).alloc (.cells #[.int .i64 0,.slice none 0 0,.slice none 0 0] 27)) from ⟨_,zeroTy,0,rfl,zero_in _ _,hb0,by simp [zeroTy,szTy_eq,Ty.labels,Ty.args,sumSizes,szTys],Or.inl rfl⟩)
 clear hv hval hs0 p0 q0 z0 hb0
 go_enter Tryz.func149,Tryz.ntmps149
 go_wp2
 exact bodyPost_ret (v:=.tuple #[.agg #[.int .i64 0,.slice none 0 0,.slice none 0 0],.int .i64 0,.bool false]) (by simp [results,Tryz.results149,go_sem]) rfl HF.out
set_option maxHeartbeats 8000000 in
theorem leaf_no3 (sk:Int) (sl:List ByteArray) (sa:List Ty) (L A B:Option Addr) (lc ac bc:Nat) (n0:Int) (nm:ByteArray) (ts:List Ot) (w:World) (hv:TyAt w w.heap.size (.agg #[.int .i64 sk,.slice L sl.length lc,.slice A sa.length ac]) (.mk sk sl sa)) (hval:validB (.mk sk sl sa)=true) (i9:(sk == 4)=false):
  Calls Tryz.prog 149 #[.agg #[.int .i64 sk,.slice L sl.length lc,.slice A sa.length ac],.agg #[.int .i64 3,.string nm,.int .i64 n0,.slice B ts.length bc]] w (SomePost ((none:Option (Ty×Int))) w):=by
 obtain ⟨hb0,p0,q0,z0,hs0⟩:=boxes3 w 27 30 27 #[.int .i64 sk,.slice L sl.length lc,.slice A sa.length ac] #[.int .i64 3,.string nm,.int .i64 n0,.slice B ts.length bc] #[.int .i64 0,.slice none 0 0,.slice none 0 0]
 have hv0:=hv.up hb0
 have hpl:=p0.lt
 have hzl:=z0.lt
 have hsz:=szTy_valid hval
 have HF:=Lib.hid (show SomePost none w (.returned (.tuple #[.agg #[.int .i64 0,.slice none 0 0,.slice none 0 0],.int .i64 0,.bool false])) (((w.alloc (.cells #[.int .i64 sk,.slice L sl.length lc,.slice A sa.length ac] 27)).alloc (.cells #[.int .i64 3,.string nm,.int .i64 n0,.slice B ts.length bc] 30)).alloc (.cells #[.int .i64 0,.slice none 0 0,.slice none 0 0] 27)) from ⟨_,zeroTy,0,rfl,zero_in _ _,hb0,by simp [zeroTy,szTy_eq,Ty.labels,Ty.args,sumSizes,szTys],Or.inl rfl⟩)
 clear hv hval hs0 p0 q0 z0 hb0
 go_enter Tryz.func149,Tryz.ntmps149
 go_wp2
 exact bodyPost_ret (v:=.tuple #[.agg #[.int .i64 0,.slice none 0 0,.slice none 0 0],.int .i64 0,.bool false]) (by simp [results,Tryz.results149,go_sem]) rfl HF.out
set_option maxHeartbeats 8000000 in
theorem leaf_no4 (sk:Int) (sl:List ByteArray) (sa:List Ty) (L A B:Option Addr) (lc ac bc:Nat) (n0:Int) (nm:ByteArray) (ts:List Ot) (w:World) (hv:TyAt w w.heap.size (.agg #[.int .i64 sk,.slice L sl.length lc,.slice A sa.length ac]) (.mk sk sl sa)) (hval:validB (.mk sk sl sa)=true) (i9:(sk == 5)=false):
  Calls Tryz.prog 149 #[.agg #[.int .i64 sk,.slice L sl.length lc,.slice A sa.length ac],.agg #[.int .i64 4,.string nm,.int .i64 n0,.slice B ts.length bc]] w (SomePost ((none:Option (Ty×Int))) w):=by
 obtain ⟨hb0,p0,q0,z0,hs0⟩:=boxes3 w 27 30 27 #[.int .i64 sk,.slice L sl.length lc,.slice A sa.length ac] #[.int .i64 4,.string nm,.int .i64 n0,.slice B ts.length bc] #[.int .i64 0,.slice none 0 0,.slice none 0 0]
 have hv0:=hv.up hb0
 have hpl:=p0.lt
 have hzl:=z0.lt
 have hsz:=szTy_valid hval
 have HF:=Lib.hid (show SomePost none w (.returned (.tuple #[.agg #[.int .i64 0,.slice none 0 0,.slice none 0 0],.int .i64 0,.bool false])) (((w.alloc (.cells #[.int .i64 sk,.slice L sl.length lc,.slice A sa.length ac] 27)).alloc (.cells #[.int .i64 4,.string nm,.int .i64 n0,.slice B ts.length bc] 30)).alloc (.cells #[.int .i64 0,.slice none 0 0,.slice none 0 0] 27)) from ⟨_,zeroTy,0,rfl,zero_in _ _,hb0,by simp [zeroTy,szTy_eq,Ty.labels,Ty.args,sumSizes,szTys],Or.inl rfl⟩)
 clear hv hval hs0 p0 q0 z0 hb0
 go_enter Tryz.func149,Tryz.ntmps149
 go_wp2
 exact bodyPost_ret (v:=.tuple #[.agg #[.int .i64 0,.slice none 0 0,.slice none 0 0],.int .i64 0,.bool false]) (by simp [results,Tryz.results149,go_sem]) rfl HF.out
set_option maxHeartbeats 8000000 in
theorem leaf_no6 (sk:Int) (sl:List ByteArray) (sa:List Ty) (L A B:Option Addr) (lc ac bc:Nat) (n0:Int) (nm:ByteArray) (ts:List Ot) (w:World) (hv:TyAt w w.heap.size (.agg #[.int .i64 sk,.slice L sl.length lc,.slice A sa.length ac]) (.mk sk sl sa)) (hval:validB (.mk sk sl sa)=true) (i9:(sk == 5)=false):
  Calls Tryz.prog 149 #[.agg #[.int .i64 sk,.slice L sl.length lc,.slice A sa.length ac],.agg #[.int .i64 6,.string nm,.int .i64 n0,.slice B ts.length bc]] w (SomePost ((none:Option (Ty×Int))) w):=by
 obtain ⟨hb0,p0,q0,z0,hs0⟩:=boxes3 w 27 30 27 #[.int .i64 sk,.slice L sl.length lc,.slice A sa.length ac] #[.int .i64 6,.string nm,.int .i64 n0,.slice B ts.length bc] #[.int .i64 0,.slice none 0 0,.slice none 0 0]
 have hv0:=hv.up hb0
 have hpl:=p0.lt
 have hzl:=z0.lt
 have hsz:=szTy_valid hval
 have HF:=Lib.hid (show SomePost none w (.returned (.tuple #[.agg #[.int .i64 0,.slice none 0 0,.slice none 0 0],.int .i64 0,.bool false])) (((w.alloc (.cells #[.int .i64 sk,.slice L sl.length lc,.slice A sa.length ac] 27)).alloc (.cells #[.int .i64 6,.string nm,.int .i64 n0,.slice B ts.length bc] 30)).alloc (.cells #[.int .i64 0,.slice none 0 0,.slice none 0 0] 27)) from ⟨_,zeroTy,0,rfl,zero_in _ _,hb0,by simp [zeroTy,szTy_eq,Ty.labels,Ty.args,sumSizes,szTys],Or.inl rfl⟩)
 clear hv hval hs0 p0 q0 z0 hb0
 go_enter Tryz.func149,Tryz.ntmps149
 go_wp2
 exact bodyPost_ret (v:=.tuple #[.agg #[.int .i64 0,.slice none 0 0,.slice none 0 0],.int .i64 0,.bool false]) (by simp [results,Tryz.results149,go_sem]) rfl HF.out
set_option maxHeartbeats 8000000 in
theorem leaf_none (k0:Int) (i1:(k0 == 1)=false) (i2:(k0 == 2)=false) (i3:(k0 == 3)=false) (i4:(k0 == 4)=false) (i5:(k0 == 5)=false) (i6:(k0 == 6)=false) (i7:(k0 == 7)=false) (i8:(k0 == 8)=false) (i9:(k0 == 9)=false) (i10:(k0 == 10)=false) (sk:Int) (sl:List ByteArray) (sa:List Ty) (L A B:Option Addr) (lc ac bc:Nat) (n0:Int) (nm:ByteArray) (ts:List Ot) (w:World) (hv:TyAt w w.heap.size (.agg #[.int .i64 sk,.slice L sl.length lc,.slice A sa.length ac]) (.mk sk sl sa)) (hval:validB (.mk sk sl sa)=true):
  Calls Tryz.prog 149 #[.agg #[.int .i64 sk,.slice L sl.length lc,.slice A sa.length ac],.agg #[.int .i64 k0,.string nm,.int .i64 n0,.slice B ts.length bc]] w (SomePost ((none:Option (Ty×Int))) w):=by
 obtain ⟨hb0,p0,q0,z0,hs0⟩:=boxes3 w 27 30 27 #[.int .i64 sk,.slice L sl.length lc,.slice A sa.length ac] #[.int .i64 k0,.string nm,.int .i64 n0,.slice B ts.length bc] #[.int .i64 0,.slice none 0 0,.slice none 0 0]
 have hv0:=hv.up hb0
 have hpl:=p0.lt
 have hzl:=z0.lt
 have hsz:=szTy_valid hval
 have HF:=Lib.hid (show SomePost none w (.returned (.tuple #[.agg #[.int .i64 0,.slice none 0 0,.slice none 0 0],.int .i64 0,.bool false])) (((w.alloc (.cells #[.int .i64 sk,.slice L sl.length lc,.slice A sa.length ac] 27)).alloc (.cells #[.int .i64 k0,.string nm,.int .i64 n0,.slice B ts.length bc] 30)).alloc (.cells #[.int .i64 0,.slice none 0 0,.slice none 0 0] 27)) from ⟨_,zeroTy,0,rfl,zero_in _ _,hb0,by simp [zeroTy,szTy_eq,Ty.labels,Ty.args,sumSizes,szTys],Or.inl rfl⟩)
 clear hv hval hs0 p0 q0 z0 hb0
 go_enter Tryz.func149,Tryz.ntmps149
 go_wp2
 exact bodyPost_ret (v:=.tuple #[.agg #[.int .i64 0,.slice none 0 0,.slice none 0 0],.int .i64 0,.bool false]) (by simp [results,Tryz.results149,go_sem]) rfl HF.out
set_option maxHeartbeats 8000000 in
theorem leaf_no5 (sk:Int) (sl:List ByteArray) (sa:List Ty) (L A B:Option Addr) (lc ac bc:Nat) (n0:Int) (nm:ByteArray) (ts:List Ot) (w:World) (hv:TyAt w w.heap.size (.agg #[.int .i64 sk,.slice L sl.length lc,.slice A sa.length ac]) (.mk sk sl sa)) (hval:validB (.mk sk sl sa)=true) (hu:uniformB (.mk sk sl sa)=false):
  Calls Tryz.prog 149 #[.agg #[.int .i64 sk,.slice L sl.length lc,.slice A sa.length ac],.agg #[.int .i64 5,.string nm,.int .i64 n0,.slice B ts.length bc]] w (SomePost ((none:Option (Ty×Int))) w):=by
 obtain ⟨hb0,p0,q0,z0,hs0⟩:=boxes3 w 27 30 27 #[.int .i64 sk,.slice L sl.length lc,.slice A sa.length ac] #[.int .i64 5,.string nm,.int .i64 n0,.slice B ts.length bc] #[.int .i64 0,.slice none 0 0,.slice none 0 0]
 have hv0:=hv.up hb0
 have hpl:=p0.lt
 have hzl:=z0.lt
 have hsz:=szTy_valid hval
 have HU:=Lib.hid (fun W h=>(show Calls Tryz.prog 140 #[.agg #[.int .i64 sk,.slice L sl.length lc,.slice A sa.length ac]] W (BoolIs false W) from by have h1:=specUniform_any (.mk sk sl sa) (.agg #[.int .i64 sk,.slice L sl.length lc,.slice A sa.length ac]) W h (by omega);rw [hu] at h1;exact h1))
 clear hv hval hs0 hu
 go_enter Tryz.func149,Tryz.ntmps149
 go_wp2_with fail
 generalize ((w.alloc (.cells #[.int .i64 sk,.slice L sl.length lc,.slice A sa.length ac] 27)).alloc (.cells #[.int .i64 5,.string nm,.int .i64 n0,.slice B ts.length bc] 30)).alloc (.cells #[.int .i64 0,.slice none 0 0,.slice none 0 0] 27)=w0 at *
 refine (HU.out w0 hv0).mono ?_
 rintro e wu ⟨rfl,hbu⟩
 have hbu0:=hb0.trans (hbu.mono hb0.size)
 have pu:=p0.below hbu hpl
 have qu:=q0.below hbu q0.lt
 have zu:=z0.below hbu hzl
 have hzl2:=zu.lt
 obtain ⟨a0,a1,a2⟩:=pu.c3
 obtain ⟨b0,b1,b2,b3⟩:=qu.c4
 have z1:=zu
 obtain ⟨d0,d1,d2⟩:=z1.c3
 obtain ⟨f0,f1,f2⟩:=z1.f3
 have hzw:w.heap.size≤w.heap.size+1+1:=by omega
 have HF:=Lib.hid (fun x y z=>(show SomePost none w (.returned (.tuple #[.agg #[.int .i64 0,.slice none 0 0,.slice none 0 0],.int .i64 0,.bool false])) (((wu.setCell ⟨w.heap.size+1+1,0,none⟩ x).setCell ⟨w.heap.size+1+1,1,none⟩ y).setCell ⟨w.heap.size+1+1,2,none⟩ z) from ⟨_,zeroTy,0,rfl,zero_in _ _,(((hbu0.setCell hzw _).setCell hzw _).setCell hzw _),by simp [zeroTy,szTy_eq,Ty.labels,Ty.args,sumSizes,szTys],Or.inl rfl⟩))
 clear z1 zu qu pu hb0 z0 p0 q0 hbu hbu0
 go_wp2
 exact bodyPost_ret (v:=.tuple #[.agg #[.int .i64 0,.slice none 0 0,.slice none 0 0],.int .i64 0,.bool false]) (by simp [results,Tryz.results149,go_sem,d0,d1,d2]) rfl (HF.out _ _ _)
end Go.Proofs.YtfnblkcmcfofoaaGreatDoor
