/- Lemmas: SpecOType. -/
import Derived.Test.YtfnblkcmcfofoaaGreatDoorLawFoci_19

namespace Go.Proofs.YtfnblkcmcfofoaaGreatDoor
set_option maxRecDepth 100000
open Go.RowKit
attribute [local go_sem ↓] Go.wp_at_zero Go.wp_at_succ
theorem mapO_some {f:Ty→Option (Ty×Int)} {sl:List ByteArray} {e1:Ty}:(mapO f (.mk 5 sl [e1])=none∨mapO f (.mk 5 sl [e1])=some (.mk 5 [] [tyO (f e1)],1))∧(mapO f (.mk 5 sl [e1])).isSome=((f e1).isSome&&(kdO (f e1) == 1)):=by
 have h5:(Ty.mk 5 sl [e1]).kind=5:=rfl
 simp only [mapO,h5,if_true,Ty.args,List.getElem?_cons_zero]
 cases f e1 with
 | none=>exact ⟨Or.inl rfl,rfl⟩
 | some p=>
  obtain ⟨t,kd⟩:=p
  by_cases h:kd=1
  ·subst h
   exact ⟨Or.inr rfl,rfl⟩
  ·simp only [h,if_false,kdO]
   exact ⟨Or.inl trivial,by simp [h]⟩
theorem mapO_none {f:Ty→Option (Ty×Int)} {s:Ty} (h:s.kind≠5):mapO f s=none:=by simp only [mapO,h,if_false]
set_option maxHeartbeats 8000000 in
theorem some_then (s:Ty) (r:Option (Ty×Int)) (L A B:Option Addr) (lc ac bc:Nat) (n0:Int) (nm:ByteArray) (ts:List Ot) (w:World) (hc:∀ W,Below w.heap.size w W→Calls Tryz.prog 148 #[.agg #[.int .i64 s.kind,.slice L s.labels.length lc,.slice A s.args.length ac],.agg #[.int .i64 12,.string nm,.int .i64 n0,.slice B ts.length bc]] W (SomePost r W)):
  Calls Tryz.prog 107 #[.agg #[.int .i64 s.kind,.slice L s.labels.length lc,.slice A s.args.length ac],.agg #[.int .i64 12,.string nm,.int .i64 n0,.slice B ts.length bc]] w (SomePost r w):=by
 obtain ⟨hb0,p0,q0,z0,hs0⟩:=boxes3 w 27 30 27 #[.int .i64 s.kind,.slice L s.labels.length lc,.slice A s.args.length ac] #[.int .i64 12,.string nm,.int .i64 n0,.slice B ts.length bc] #[.int .i64 0,.slice none 0 0,.slice none 0 0]
 have HC:=Lib.hid (hc _ hb0)
 have hzl:=z0.lt
 clear hc hs0
 go_enter Tryz.func107,Tryz.ntmps107
 go_wp2_with fail
 generalize ((w.alloc (.cells #[.int .i64 s.kind,.slice L s.labels.length lc,.slice A s.args.length ac] 27)).alloc (.cells #[.int .i64 12,.string nm,.int .i64 n0,.slice B ts.length bc] 30)).alloc (.cells #[.int .i64 0,.slice none 0 0,.slice none 0 0] 27)=w0 at *
 refine HC.out.mono ?_
 rintro e w1 ⟨v2,t,kd,rfl,hv2,hb1,hsz,hor⟩
 obtain ⟨okb,hok⟩:∃ b,r.isSome=b:=⟨_,rfl⟩
 rw [hok]
 have HOK:=Lib.hid hok
 clear hok
 have HV2:=hv2
 obtain ⟨T1,U1,T2,U2,_,rfl,_⟩:=hv2.open
 have cb1:=hb0.trans (hb1.mono hb0.size)
 have hsb:=hb1.size
 have z1:=z0.below hb1 hzl
 have hb2:=(Below.refl w1.heap.size w1).alloc (Nat.le_refl _) (.cells #[.int .i64 t.kind,.slice T1 t.labels.length U1,.slice T2 t.args.length U2] 27)
 have cb2:=cb1.trans (hb2.mono cb1.size)
 have z2:=z1.below hb2 z1.lt
 have HV3:=(HV2.keep (w':=(w1.alloc (.cells #[.int .i64 t.kind,.slice T1 t.labels.length U1,.slice T2 t.args.length U2] 27))) (fun q _ hq=>hb2.block q hq)).wide (S':=Span w0.heap.size (w1.alloc (.cells #[.int .i64 t.kind,.slice T1 t.labels.length U1,.slice T2 t.args.length U2] 27)).heap.size) (fun q hq=>⟨hq.1,Nat.lt_of_lt_of_le hq.2 hb2.size⟩)
 obtain ⟨d0,d1,d2⟩:=z2.c3
 obtain ⟨f0,f1,f2⟩:=z2.f3
 have HF:=Lib.hid (fun x y z=>(show SomePost r w (.returned (.tuple #[.agg #[.int .i64 t.kind,.slice T1 t.labels.length U1,.slice T2 t.args.length U2],.int .i64 kd,.bool okb])) _ from ⟨_,t,kd,by rw [HOK.out],(set3_in HV3 hzl (by omega) cb2 x y z).1,(set3_in HV3 hzl (by omega) cb2 x y z).2,hsz,hor⟩))
 clear HV2 HV3 hv2 hb1 hb2 cb1 cb2 z1 z2 hb0 p0 q0 z0 hsb hor
 go_wp2
 exact bodyPost_ret (v:=.tuple #[.agg #[.int .i64 t.kind,.slice T1 t.labels.length U1,.slice T2 t.args.length U2],.int .i64 kd,.bool okb]) (by simp [results,Tryz.results107,go_sem,d0,d1,d2]) rfl (HF.out _ _ _)
set_option maxHeartbeats 8000000 in
theorem some_else (s:Ty) (r:Option (Ty×Int)) (L A B:Option Addr) (lc ac bc:Nat) (n0:Int) (nm:ByteArray) (ts:List Ot) (w:World) (hc:∀ W,Below w.heap.size w W→Calls Tryz.prog 148 #[.agg #[.int .i64 s.kind,.slice L s.labels.length lc,.slice A s.args.length ac],.agg #[.int .i64 13,.string nm,.int .i64 n0,.slice B ts.length bc]] W (SomePost r W)):
  Calls Tryz.prog 107 #[.agg #[.int .i64 s.kind,.slice L s.labels.length lc,.slice A s.args.length ac],.agg #[.int .i64 13,.string nm,.int .i64 n0,.slice B ts.length bc]] w (SomePost r w):=by
 obtain ⟨hb0,p0,q0,z0,hs0⟩:=boxes3 w 27 30 27 #[.int .i64 s.kind,.slice L s.labels.length lc,.slice A s.args.length ac] #[.int .i64 13,.string nm,.int .i64 n0,.slice B ts.length bc] #[.int .i64 0,.slice none 0 0,.slice none 0 0]
 have HC:=Lib.hid (hc _ hb0)
 have hzl:=z0.lt
 clear hc hs0
 go_enter Tryz.func107,Tryz.ntmps107
 go_wp2_with fail
 generalize ((w.alloc (.cells #[.int .i64 s.kind,.slice L s.labels.length lc,.slice A s.args.length ac] 27)).alloc (.cells #[.int .i64 13,.string nm,.int .i64 n0,.slice B ts.length bc] 30)).alloc (.cells #[.int .i64 0,.slice none 0 0,.slice none 0 0] 27)=w0 at *
 refine HC.out.mono ?_
 rintro e w1 ⟨v2,t,kd,rfl,hv2,hb1,hsz,hor⟩
 obtain ⟨okb,hok⟩:∃ b,r.isSome=b:=⟨_,rfl⟩
 rw [hok]
 have HOK:=Lib.hid hok
 clear hok
 have HV2:=hv2
 obtain ⟨T1,U1,T2,U2,_,rfl,_⟩:=hv2.open
 have cb1:=hb0.trans (hb1.mono hb0.size)
 have hsb:=hb1.size
 have z1:=z0.below hb1 hzl
 have hb2:=(Below.refl w1.heap.size w1).alloc (Nat.le_refl _) (.cells #[.int .i64 t.kind,.slice T1 t.labels.length U1,.slice T2 t.args.length U2] 27)
 have cb2:=cb1.trans (hb2.mono cb1.size)
 have z2:=z1.below hb2 z1.lt
 have HV3:=(HV2.keep (w':=(w1.alloc (.cells #[.int .i64 t.kind,.slice T1 t.labels.length U1,.slice T2 t.args.length U2] 27))) (fun q _ hq=>hb2.block q hq)).wide (S':=Span w0.heap.size (w1.alloc (.cells #[.int .i64 t.kind,.slice T1 t.labels.length U1,.slice T2 t.args.length U2] 27)).heap.size) (fun q hq=>⟨hq.1,Nat.lt_of_lt_of_le hq.2 hb2.size⟩)
 obtain ⟨d0,d1,d2⟩:=z2.c3
 obtain ⟨f0,f1,f2⟩:=z2.f3
 have HF:=Lib.hid (fun x y z=>(show SomePost r w (.returned (.tuple #[.agg #[.int .i64 t.kind,.slice T1 t.labels.length U1,.slice T2 t.args.length U2],.int .i64 kd,.bool okb])) _ from ⟨_,t,kd,by rw [HOK.out],(set3_in HV3 hzl (by omega) cb2 x y z).1,(set3_in HV3 hzl (by omega) cb2 x y z).2,hsz,hor⟩))
 clear HV2 HV3 hv2 hb1 hb2 cb1 cb2 z1 z2 hb0 p0 q0 z0 hsb hor
 go_wp2
 exact bodyPost_ret (v:=.tuple #[.agg #[.int .i64 t.kind,.slice T1 t.labels.length U1,.slice T2 t.args.length U2],.int .i64 kd,.bool okb]) (by simp [results,Tryz.results107,go_sem,d0,d1,d2]) rfl (HF.out _ _ _)
set_option maxHeartbeats 8000000 in
theorem some_leaf (s:Ty) (r:Option (Ty×Int)) (L A B:Option Addr) (lc ac bc:Nat) (n0:Int) (nm:ByteArray) (ts:List Ot) (w:World) (k0:Int) (i11:(k0 == 11)=false) (i12:(k0 == 12)=false) (i13:(k0 == 13)=false) (hc:∀ W,Below w.heap.size w W→Calls Tryz.prog 149 #[.agg #[.int .i64 s.kind,.slice L s.labels.length lc,.slice A s.args.length ac],.agg #[.int .i64 k0,.string nm,.int .i64 n0,.slice B ts.length bc]] W (SomePost r W)):
  Calls Tryz.prog 107 #[.agg #[.int .i64 s.kind,.slice L s.labels.length lc,.slice A s.args.length ac],.agg #[.int .i64 k0,.string nm,.int .i64 n0,.slice B ts.length bc]] w (SomePost r w):=by
 obtain ⟨hb0,p0,q0,z0,hs0⟩:=boxes3 w 27 30 27 #[.int .i64 s.kind,.slice L s.labels.length lc,.slice A s.args.length ac] #[.int .i64 k0,.string nm,.int .i64 n0,.slice B ts.length bc] #[.int .i64 0,.slice none 0 0,.slice none 0 0]
 have HC:=Lib.hid (hc _ hb0)
 have hzl:=z0.lt
 clear hc hs0
 go_enter Tryz.func107,Tryz.ntmps107
 go_wp2_with fail
 generalize ((w.alloc (.cells #[.int .i64 s.kind,.slice L s.labels.length lc,.slice A s.args.length ac] 27)).alloc (.cells #[.int .i64 k0,.string nm,.int .i64 n0,.slice B ts.length bc] 30)).alloc (.cells #[.int .i64 0,.slice none 0 0,.slice none 0 0] 27)=w0 at *
 refine HC.out.mono ?_
 rintro e w1 ⟨v2,t,kd,rfl,hv2,hb1,hsz,hor⟩
 obtain ⟨okb,hok⟩:∃ b,r.isSome=b:=⟨_,rfl⟩
 rw [hok]
 have HOK:=Lib.hid hok
 clear hok
 have HV2:=hv2
 obtain ⟨T1,U1,T2,U2,_,rfl,_⟩:=hv2.open
 have cb1:=hb0.trans (hb1.mono hb0.size)
 have hsb:=hb1.size
 have z1:=z0.below hb1 hzl
 have hb2:=(Below.refl w1.heap.size w1).alloc (Nat.le_refl _) (.cells #[.int .i64 t.kind,.slice T1 t.labels.length U1,.slice T2 t.args.length U2] 27)
 have cb2:=cb1.trans (hb2.mono cb1.size)
 have z2:=z1.below hb2 z1.lt
 have HV3:=(HV2.keep (w':=(w1.alloc (.cells #[.int .i64 t.kind,.slice T1 t.labels.length U1,.slice T2 t.args.length U2] 27))) (fun q _ hq=>hb2.block q hq)).wide (S':=Span w0.heap.size (w1.alloc (.cells #[.int .i64 t.kind,.slice T1 t.labels.length U1,.slice T2 t.args.length U2] 27)).heap.size) (fun q hq=>⟨hq.1,Nat.lt_of_lt_of_le hq.2 hb2.size⟩)
 obtain ⟨d0,d1,d2⟩:=z2.c3
 obtain ⟨f0,f1,f2⟩:=z2.f3
 have HF:=Lib.hid (fun x y z=>(show SomePost r w (.returned (.tuple #[.agg #[.int .i64 t.kind,.slice T1 t.labels.length U1,.slice T2 t.args.length U2],.int .i64 kd,.bool okb])) _ from ⟨_,t,kd,by rw [HOK.out],(set3_in HV3 hzl (by omega) cb2 x y z).1,(set3_in HV3 hzl (by omega) cb2 x y z).2,hsz,hor⟩))
 clear HV2 HV3 hv2 hb1 hb2 cb1 cb2 z1 z2 hb0 p0 q0 z0 hsb hor
 go_wp2
 exact bodyPost_ret (v:=.tuple #[.agg #[.int .i64 t.kind,.slice T1 t.labels.length U1,.slice T2 t.args.length U2],.int .i64 kd,.bool okb]) (by simp [results,Tryz.results107,go_sem,d0,d1,d2]) rfl (HF.out _ _ _)
set_option maxHeartbeats 8000000 in
theorem some_nomap (s:Ty) (sk:Int) (L A B:Option Addr) (lc ac bc:Nat) (n0:Int) (nm:ByteArray) (ts:List Ot) (w:World) (i5:(sk == 5)=false):
  Calls Tryz.prog 107 #[.agg #[.int .i64 sk,.slice L s.labels.length lc,.slice A s.args.length ac],.agg #[.int .i64 11,.string nm,.int .i64 n0,.slice B ts.length bc]] w (SomePost none w):=by
 obtain ⟨hb0,p0,q0,z0,hs0⟩:=boxes3 w 27 30 27 #[.int .i64 sk,.slice L s.labels.length lc,.slice A s.args.length ac] #[.int .i64 11,.string nm,.int .i64 n0,.slice B ts.length bc] #[.int .i64 0,.slice none 0 0,.slice none 0 0]
 have HF:=Lib.hid (show SomePost none w (.returned (.tuple #[.agg #[.int .i64 0,.slice none 0 0,.slice none 0 0],.int .i64 0,.bool false])) (((w.alloc (.cells #[.int .i64 sk,.slice L s.labels.length lc,.slice A s.args.length ac] 27)).alloc (.cells #[.int .i64 11,.string nm,.int .i64 n0,.slice B ts.length bc] 30)).alloc (.cells #[.int .i64 0,.slice none 0 0,.slice none 0 0] 27)) from ⟨_,zeroTy,0,rfl,zero_in _ _,hb0,by simp [zeroTy,szTy_eq,Ty.labels,Ty.args,sumSizes,szTys],Or.inl rfl⟩)
 clear hs0 p0 q0 z0 hb0
 go_enter Tryz.func107,Tryz.ntmps107
 go_wp2
 exact bodyPost_ret (v:=.tuple #[.agg #[.int .i64 0,.slice none 0 0,.slice none 0 0],.int .i64 0,.bool false]) (by simp [results,Tryz.results107,go_sem]) rfl HF.out
set_option maxHeartbeats 16000000 in
theorem some_map (sl:List ByteArray) (e1:Ty) (o0:Ot) (h0:TypeOneO o0) (f0:formOt o0=true) (z0':szOt o0≤1048576) (L A B:Option Addr) (lc ac bc:Nat) (n0:Int) (nm:ByteArray) (w:World) (hv:TyAt w w.heap.size (.agg #[.int .i64 5,.slice L sl.length lc,.slice A 1 ac]) (.mk 5 sl [e1])) (ho:OtsAt w w.heap.size B [o0]) (hve:validB e1=true):
  Calls Tryz.prog 107 #[.agg #[.int .i64 5,.slice L sl.length lc,.slice A 1 ac],.agg #[.int .i64 11,.string nm,.int .i64 n0,.slice B 1 bc]] w (SomePost (mapO (typeO o0) (.mk 5 sl [e1])) w):=by
 have ha:=args_at (ts:=[e1]) hv
 obtain ⟨g,og,M,mc,C,cc,rfl,hgB,x0,x1,x2,_,_,_,_,hte⟩:=ha.elem 0 (by simp)
 obtain ⟨b,off,A0,c0,rfl,hbB,y0,y2,y1,y3,hto⟩:=ho.elem 0 (by simp)
 simp only [Nat.zero_mul,Nat.add_zero,List.getElem_cons_zero] at x0 x1 x2 y0 y1 y2 y3 hte hto
 obtain ⟨hb0,p0,q0,z0,hs0⟩:=boxes3 w 27 30 27 #[.int .i64 5,.slice L sl.length lc,.slice (some ⟨g,og,none⟩) 1 ac] #[.int .i64 11,.string nm,.int .i64 n0,.slice (some ⟨b,off,none⟩) 1 bc] #[.int .i64 0,.slice none 0 0,.slice none 0 0]
 have hu0:=hte.up hb0
 have hu1:=hto.up hb0
 have hzl:=z0.lt
 have hpl:=p0.lt
 have hql:=q0.lt
 have hgl:g<(((w.alloc (.cells #[.int .i64 5,.slice L sl.length lc,.slice (some ⟨g,og,none⟩) 1 ac] 27)).alloc (.cells #[.int .i64 11,.string nm,.int .i64 n0,.slice (some ⟨b,off,none⟩) 1 bc] 30)).alloc (.cells #[.int .i64 0,.slice none 0 0,.slice none 0 0] 27)).heap.size:=Nat.lt_of_lt_of_le hgB hb0.size
 have hbl:b<(((w.alloc (.cells #[.int .i64 5,.slice L sl.length lc,.slice (some ⟨g,og,none⟩) 1 ac] 27)).alloc (.cells #[.int .i64 11,.string nm,.int .i64 n0,.slice (some ⟨b,off,none⟩) 1 bc] 30)).alloc (.cells #[.int .i64 0,.slice none 0 0,.slice none 0 0] 27)).heap.size:=Nat.lt_of_lt_of_le hbB hb0.size
 have HX:=Lib.hid (And.intro ((kC hb0 x0 hgB)) (And.intro ((kC hb0 x1 hgB)) ((kC hb0 x2 hgB))))
 have HY:=Lib.hid (And.intro ((kC hb0 y0 hbB)) (And.intro ((kC hb0 y1 hbB)) (And.intro ((kC hb0 y2 hbB)) ((kC hb0 y3 hbB)))))
 clear hv ho ha hte hto x0 x1 x2 y0 y1 y2 y3 hs0
 have HT:=Lib.hid (fun W (h:Below (((w.alloc (.cells #[.int .i64 5,.slice L sl.length lc,.slice (some ⟨g,og,none⟩) 1 ac] 27)).alloc (.cells #[.int .i64 11,.string nm,.int .i64 n0,.slice (some ⟨b,off,none⟩) 1 bc] 30)).alloc (.cells #[.int .i64 0,.slice none 0 0,.slice none 0 0] 27)).heap.size (((w.alloc (.cells #[.int .i64 5,.slice L sl.length lc,.slice (some ⟨g,og,none⟩) 1 ac] 27)).alloc (.cells #[.int .i64 11,.string nm,.int .i64 n0,.slice (some ⟨b,off,none⟩) 1 bc] 30)).alloc (.cells #[.int .i64 0,.slice none 0 0,.slice none 0 0] 27)) W)=>h0 e1 _ _ W (hu0.up h) (hu1.up h) hve f0 z0')
 have HR:=Lib.hid (mapO_some (f:=typeO o0) (sl:=sl) (e1:=e1))
 have HS:=Lib.hid (sz_tyO o0 e1)
 generalize (typeO o0 e1).isSome=okb at *
 generalize tyO (typeO o0 e1)=tb at *
 generalize kdO (typeO o0 e1)=kb at *
 go_enter Tryz.func107,Tryz.ntmps107
 go_upto_region 5 with fail
 generalize ((w.alloc (.cells #[.int .i64 5,.slice L sl.length lc,.slice (some ⟨g,og,none⟩) 1 ac] 27)).alloc (.cells #[.int .i64 11,.string nm,.int .i64 n0,.slice (some ⟨b,off,none⟩) 1 bc] 30)).alloc (.cells #[.int .i64 0,.slice none 0 0,.slice none 0 0] 27)=w0 at *
 have bA:=(Below.refl w0.heap.size w0).drew
 have bB:=((Below.refl w0.heap.size w0).alloc (Nat.le_refl _) (.cells #[.int .i64 0,.slice none 0 0,.slice none 0 0] 27)).drew
 have zB:Whole1 (w0.alloc (.cells #[.int .i64 0,.slice none 0 0,.slice none 0 0] 27)).drew w0.heap.size 27 #[.int .i64 0,.slice none 0 0,.slice none 0 0]:=Whole1.new w0 27 #[.int .i64 0,.slice none 0 0,.slice none 0 0]
 have KS:=Lib.hid (fun (x:World) (hx:Below w0.heap.size w0 x)=>(show x.cell? ⟨w.heap.size,2,none⟩=some (.slice (some ⟨g,og,none⟩) 1 ac)∧x.cell? ⟨w.heap.size+1,3,none⟩=some (.slice (some ⟨b,off,none⟩) 1 bc)∧x.cell? ⟨g,og,none⟩=some (.int .i64 e1.kind)∧x.cell? ⟨g,og+1,none⟩=some (.slice M e1.labels.length mc)∧x.cell? ⟨g,og+2,none⟩=some (.slice C e1.args.length cc)∧x.cell? ⟨b,off,none⟩=some (.int .i64 o0.kind)∧x.cell? ⟨b,off+1,none⟩=some (.string o0.name)∧x.cell? ⟨b,off+2,none⟩=some (.int .i64 o0.num)∧x.cell? ⟨b,off+3,none⟩=some (.slice A0 o0.args.length c0) from ⟨kC hx (p0.cell 2) hpl,kC hx (q0.cell 3) hql,kC hx (HX.out.1) hgl,kC hx (HX.out.2.1) hgl,kC hx (HX.out.2.2) hgl,kC hx (HY.out.1) hbl,kC hx (HY.out.2.1) hbl,kC hx (HY.out.2.2.1) hbl,kC hx (HY.out.2.2.2) hbl⟩))
 go_cut [10,11,12] from 44 to 56 (fun p kd ok wx=>∃ z T1 T2 U1 U2,p=.pointer (some ⟨z,0,none⟩)∧kd=.int .i64 kb∧ok=.bool okb∧Got w0 wx z T1 T2 U1 U2 tb)
 case first=>
  go_region_held3 (fun x:World=>x.cell? ⟨w.heap.size,2,none⟩=some (.slice (some ⟨g,og,none⟩) 1 ac)∧x.cell? ⟨w.heap.size+1,3,none⟩=some (.slice (some ⟨b,off,none⟩) 1 bc)∧x.cell? ⟨g,og,none⟩=some (.int .i64 e1.kind)∧x.cell? ⟨g,og+1,none⟩=some (.slice M e1.labels.length mc)∧x.cell? ⟨g,og+2,none⟩=some (.slice C e1.args.length cc)∧x.cell? ⟨b,off,none⟩=some (.int .i64 o0.kind)∧x.cell? ⟨b,off+1,none⟩=some (.string o0.name)∧x.cell? ⟨b,off+2,none⟩=some (.int .i64 o0.num)∧x.cell? ⟨b,off+3,none⟩=some (.slice A0 o0.args.length c0)) (first | with_reducible exact KS.out _ bA | with_reducible exact KS.out _ bB | with_reducible exact KS.out _ hb1 | with_reducible exact KS.out _ (hb1.trans (((Below.refl _ _).alloc (Nat.le_refl _) _).mono hb1.size)) | with_reducible exact KS.out _ (((hb1.setCell (Nat.le_refl _) _).setCell (Nat.le_refl _) _).setCell (Nat.le_refl _) _) | go_keep) (first | (go_simp;go_at_call 57;(with_reducible refine (HT.out _ (by first | with_reducible exact bA | with_reducible exact bB)).mono ?_);rintro e w1 ⟨v2,rfl,hv2,hb1'⟩;have HV2:=Lib.hid hv2;obtain ⟨T3,U3,T4,U4,_,rfl,_⟩:=hv2.open;have hb1:Below w0.heap.size w0 w1:=(by first | exact bA.trans (hb1'.mono bA.size) | exact bB.trans (hb1'.mono bB.size));(try have HZ1:=Lib.hid (zB.below hb1' zB.lt));(try have zq0:w1.cell? ⟨w0.heap.size,0,none⟩=some (.int .i64 0):=HZ1.out.cell 0);(try have zr0:w1.frozen? ⟨w0.heap.size,0,none⟩=false:=HZ1.out.free 0);(try have zq1:w1.cell? ⟨w0.heap.size,1,none⟩=some (.slice none 0 0):=HZ1.out.cell 1);(try have zr1:w1.frozen? ⟨w0.heap.size,1,none⟩=false:=HZ1.out.free 1);(try have zq2:w1.cell? ⟨w0.heap.size,2,none⟩=some (.slice none 0 0):=HZ1.out.cell 2);(try have zr2:w1.frozen? ⟨w0.heap.size,2,none⟩=false:=HZ1.out.free 2);clear hb1' hv2))
  all_goals go_wp2
  all_goals go_meet
  all_goals first | exact ⟨_,T3,T4,U3,U4,rfl,rfl,rfl,Got.late HV2.out bA.size hb1⟩ | exact ⟨_,T3,T4,U3,U4,rfl,rfl,rfl,Got.late HV2.out bB.size hb1⟩ | exact ⟨_,T3,T4,U3,U4,rfl,rfl,rfl,Got.early HV2.out (by first | exact zB.lt | omega) (Nat.le_refl _) HZ1.out rfl hb1⟩
 case rest=>
  obtain ⟨z,T3,T4,U3,U4,rfl,rfl,rfl,hG⟩:=hcut
  have HG:=Lib.hid hG
  have hzL:=hG.box.lt
  have hcb:=hG.below
  have hne2:w.heap.size+1+1≠z:=by have h:=hG.apart;omega
  have HL:=Lib.hid (fun W (h:Below wc.heap.size wc W)=>l3List_any tb _ W (HG.out.tree.here.up h) (by have:=HS.out;omega))
  have HFF:=Lib.hid (fun w9 lo (hI:∀ v,TyIn w9 (Span lo w9.heap.size) v (Ty.mk 5 [] [tb])→True) (h9:Below wc.heap.size wc w9)=>True.intro)
  clear hG HFF
  cases okb
  ·skip
   have a0:wc.cell? ⟨z,0,none⟩=some (.int .i64 tb.kind):=(HG.out.box.cell 0)
   have a1:wc.cell? ⟨z,1,none⟩=some (.slice T3 tb.labels.length U3):=(HG.out.box.cell 1)
   have a2:wc.cell? ⟨z,2,none⟩=some (.slice T4 tb.args.length U4):=(HG.out.box.cell 2)
   go_wp2_with fail
   refine (HL.out _ (Below.refl wc.heap.size wc)).mono ?_
   rintro e w9 ⟨v9,rfl,hO9,hb9⟩
   have HV9:=hO9.owned
   obtain ⟨T5,U5,T6,U6,rfl⟩:=hO9.open
   have hcs:=hcb.size
   have cb9:=hcb.trans (hb9.mono hcb.size)
   have z9:=z0.below cb9 hzl
   obtain ⟨d0,d1,d2⟩:=z9.c3
   obtain ⟨f0,f1,f2⟩:=z9.f3
   have HF:=Lib.hid (fun x y u=>(show SomePost (mapO (typeO o0) (.mk 5 sl [e1])) w (.returned (.tuple #[.agg #[.int .i64 (Ty.mk 5 [] [tb]).kind,.slice T5 (Ty.mk 5 [] [tb]).labels.length U5,.slice T6 (Ty.mk 5 [] [tb]).args.length U6],.int .i64 1,.bool false])) _ from ⟨_,(Ty.mk 5 [] [tb]),1,by rw [HR.out.2];rfl,(set3_in HV9 (Nat.lt_of_lt_of_le hzl hcs) (by omega) (hb0.trans (cb9.mono hb0.size)) x y u).1,(set3_in HV9 (Nat.lt_of_lt_of_le hzl hcs) (by omega) (hb0.trans (cb9.mono hb0.size)) x y u).2,by (have h1:=szTy_eq (Ty.mk 5 [] [tb]);have h2:=HS.out;simp [Ty.labels,Ty.args,sumSizes,szTys] at h1;omega),HR.out.1⟩))
   clear hb9 z9 HV9 hO9 cb9 hcs
   go_wp2
   exact bodyPost_ret (v:=.tuple #[.agg #[.int .i64 (Ty.mk 5 [] [tb]).kind,.slice T5 (Ty.mk 5 [] [tb]).labels.length U5,.slice T6 (Ty.mk 5 [] [tb]).args.length U6],.int .i64 1,.bool false]) (by simp [results,Tryz.results107,go_sem,d0,d1,d2]) rfl (HF.out _ _ _)
  ·have i1:(kb == 1)=true∨(kb == 1)=false:=by cases (kb == 1)<;>simp
   rcases i1 with i1 | i1
   ·rw [i1] at HR
    have a0:wc.cell? ⟨z,0,none⟩=some (.int .i64 tb.kind):=(HG.out.box.cell 0)
    have a1:wc.cell? ⟨z,1,none⟩=some (.slice T3 tb.labels.length U3):=(HG.out.box.cell 1)
    have a2:wc.cell? ⟨z,2,none⟩=some (.slice T4 tb.args.length U4):=(HG.out.box.cell 2)
    go_wp2_with fail
    refine (HL.out _ (Below.refl wc.heap.size wc)).mono ?_
    rintro e w9 ⟨v9,rfl,hO9,hb9⟩
    have HV9:=hO9.owned
    obtain ⟨T5,U5,T6,U6,rfl⟩:=hO9.open
    have hcs:=hcb.size
    have cb9:=hcb.trans (hb9.mono hcb.size)
    have z9:=z0.below cb9 hzl
    obtain ⟨d0,d1,d2⟩:=z9.c3
    obtain ⟨f0,f1,f2⟩:=z9.f3
    have HF:=Lib.hid (fun x y u=>(show SomePost (mapO (typeO o0) (.mk 5 sl [e1])) w (.returned (.tuple #[.agg #[.int .i64 (Ty.mk 5 [] [tb]).kind,.slice T5 (Ty.mk 5 [] [tb]).labels.length U5,.slice T6 (Ty.mk 5 [] [tb]).args.length U6],.int .i64 1,.bool true])) _ from ⟨_,(Ty.mk 5 [] [tb]),1,by rw [HR.out.2];rfl,(set3_in HV9 (Nat.lt_of_lt_of_le hzl hcs) (by omega) (hb0.trans (cb9.mono hb0.size)) x y u).1,(set3_in HV9 (Nat.lt_of_lt_of_le hzl hcs) (by omega) (hb0.trans (cb9.mono hb0.size)) x y u).2,by (have h1:=szTy_eq (Ty.mk 5 [] [tb]);have h2:=HS.out;simp [Ty.labels,Ty.args,sumSizes,szTys] at h1;omega),HR.out.1⟩))
    clear hb9 z9 HV9 hO9 cb9 hcs
    go_wp2
    exact bodyPost_ret (v:=.tuple #[.agg #[.int .i64 (Ty.mk 5 [] [tb]).kind,.slice T5 (Ty.mk 5 [] [tb]).labels.length U5,.slice T6 (Ty.mk 5 [] [tb]).args.length U6],.int .i64 1,.bool true]) (by simp [results,Tryz.results107,go_sem,d0,d1,d2]) rfl (HF.out _ _ _)
   ·rw [i1] at HR
    have a0:wc.cell? ⟨z,0,none⟩=some (.int .i64 tb.kind):=(HG.out.box.cell 0)
    have a1:wc.cell? ⟨z,1,none⟩=some (.slice T3 tb.labels.length U3):=(HG.out.box.cell 1)
    have a2:wc.cell? ⟨z,2,none⟩=some (.slice T4 tb.args.length U4):=(HG.out.box.cell 2)
    go_wp2_with fail
    refine (HL.out _ (Below.refl wc.heap.size wc)).mono ?_
    rintro e w9 ⟨v9,rfl,hO9,hb9⟩
    have HV9:=hO9.owned
    obtain ⟨T5,U5,T6,U6,rfl⟩:=hO9.open
    have hcs:=hcb.size
    have cb9:=hcb.trans (hb9.mono hcb.size)
    have z9:=z0.below cb9 hzl
    obtain ⟨d0,d1,d2⟩:=z9.c3
    obtain ⟨f0,f1,f2⟩:=z9.f3
    have HF:=Lib.hid (fun x y u=>(show SomePost (mapO (typeO o0) (.mk 5 sl [e1])) w (.returned (.tuple #[.agg #[.int .i64 (Ty.mk 5 [] [tb]).kind,.slice T5 (Ty.mk 5 [] [tb]).labels.length U5,.slice T6 (Ty.mk 5 [] [tb]).args.length U6],.int .i64 1,.bool false])) _ from ⟨_,(Ty.mk 5 [] [tb]),1,by rw [HR.out.2];rfl,(set3_in HV9 (Nat.lt_of_lt_of_le hzl hcs) (by omega) (hb0.trans (cb9.mono hb0.size)) x y u).1,(set3_in HV9 (Nat.lt_of_lt_of_le hzl hcs) (by omega) (hb0.trans (cb9.mono hb0.size)) x y u).2,by (have h1:=szTy_eq (Ty.mk 5 [] [tb]);have h2:=HS.out;simp [Ty.labels,Ty.args,sumSizes,szTys] at h1;omega),HR.out.1⟩))
    clear hb9 z9 HV9 hO9 cb9 hcs
    go_wp2
    exact bodyPost_ret (v:=.tuple #[.agg #[.int .i64 (Ty.mk 5 [] [tb]).kind,.slice T5 (Ty.mk 5 [] [tb]).labels.length U5,.slice T6 (Ty.mk 5 [] [tb]).args.length U6],.int .i64 1,.bool false]) (by simp [results,Tryz.results107,go_sem,d0,d1,d2]) rfl (HF.out _ _ _)
theorem valid_elem {sl:List ByteArray} {e1:Ty} (h:validB (.mk 5 sl [e1])=true):validB e1=true:=by
 have a1:sizeTy (.mk 5 sl [e1])=1+(sizeTy e1+0):=by rw [sizeTy,sizeTys,sizeTys]
 have a2:depthTy (.mk 5 sl [e1])=max (depthTy e1) 0+1:=by rw [depthTy,depthTys,depthTys]
 have a3:formTy (.mk 5 sl [e1])=(formTy e1&&true&&nodeB 5 sl 1):=by rw [formTy,formTys,formTys];rfl
 unfold validB at h ⊢
 rw [a1,a2,a3] at h
 simp only [Bool.and_eq_true,decide_eq_true_eq] at h ⊢
 obtain ⟨⟨h1,h2⟩,⟨h3,_⟩,_⟩:=h
 exact ⟨⟨by omega,by omega⟩,h3⟩
theorem specSome_of (k n0:Int) (nm:ByteArray) (ts:List Ot) (ih:∀ i,(h:i<ts.length)→TypeOneO ts[i]) (s:Ty) (sv:Value) (B:Option Addr) (bc:Nat) (w:World) (hv:TyAt w w.heap.size sv s) (ho:OtsAt w w.heap.size B ts) (hval:validB s=true) (hf:formOt (.mk k n0 nm ts)=true) (hsz:szOt (.mk k n0 nm ts)≤1048576):
  Calls Tryz.prog 107 #[sv,.agg #[.int .i64 k,.string nm,.int .i64 n0,.slice B ts.length bc]] w (SomePost (nodeTyO k nm (typeOs ts) s) w):=by
 obtain ⟨L,lc,A,ac,rfl,_⟩:=hv.open
 have hse:=szOt_eq (.mk k n0 nm ts)
 simp only [Ot.name,Ot.args] at hse
 by_cases h12:k=12
 ·subst h12
  obtain ⟨a,b,rfl,fa,fb⟩:=form_two hf (Or.inl rfl)
  have za:=szOt_part [a,b] 0 (by simp)
  have zb:=szOt_part [a,b] 1 (by simp)
  simp only [List.getElem_cons_zero,List.getElem_cons_succ] at za zb
  have e:nodeTyO 12 nm (typeOs [a,b]) s=thenO (typeO a) (typeO b) s:=by simp [nodeTyO,typeOs]
  rw [e]
  refine some_then s _ L A B lc ac bc n0 nm [a,b] w (fun W hW=>?_)
  cases hr:typeO a s with
  | none=>
   rw [thenO_none hr]
   exact two_none s a b (ih 0 (by simp)) (ih 1 (by simp)) fa fb (by omega) (by omega) L A B lc ac bc n0 nm W (hv.up hW) ((ho.below hW).more hW.size) hval 12 hr
  | some q=>exact two_then s a b (ih 0 (by simp)) (ih 1 (by simp)) fa fb (by omega) (by omega) L A B lc ac bc n0 nm W (hv.up hW) ((ho.below hW).more hW.size) hval q.1 q.2 hr
 by_cases h13:k=13
 ·subst h13
  obtain ⟨a,b,rfl,fa,fb⟩:=form_two hf (Or.inr rfl)
  have za:=szOt_part [a,b] 0 (by simp)
  have zb:=szOt_part [a,b] 1 (by simp)
  simp only [List.getElem_cons_zero,List.getElem_cons_succ] at za zb
  have e:nodeTyO 13 nm (typeOs [a,b]) s=elseO (typeO a) (typeO b) s:=by simp [nodeTyO,typeOs]
  rw [e]
  refine some_else s _ L A B lc ac bc n0 nm [a,b] w (fun W hW=>?_)
  cases hr:typeO a s with
  | none=>
   rw [elseO_none hr]
   exact two_none s a b (ih 0 (by simp)) (ih 1 (by simp)) fa fb (by omega) (by omega) L A B lc ac bc n0 nm W (hv.up hW) ((ho.below hW).more hW.size) hval 13 hr
  | some q=>exact two_else s a b (ih 0 (by simp)) (ih 1 (by simp)) fa fb (by omega) (by omega) L A B lc ac bc n0 nm W (hv.up hW) ((ho.below hW).more hW.size) hval q.1 q.2 hr
 by_cases h11:k=11
 ·subst h11
  obtain ⟨a,rfl,fa⟩:=form_one hf rfl
  have za:=szOt_part [a] 0 (by simp)
  simp only [List.getElem_cons_zero] at za
  have e:nodeTyO 11 nm (typeOs [a]) s=mapO (typeO a) s:=by simp [nodeTyO,typeOs]
  rw [e]
  cases s with
  | mk sk sl sa=>
  simp only [Ty.kind,Ty.labels,Ty.args] at hv ⊢
  by_cases h5:sk=5
  ·subst h5
   obtain ⟨e1,rfl⟩:=list_one hval
   exact some_map sl e1 a (ih 0 (by simp)) fa (by omega) L A B lc ac bc n0 nm w hv ho (valid_elem hval)
  ·rw [mapO_none (by simpa [Ty.kind] using h5)]
   exact some_nomap (.mk sk sl sa) sk L A B lc ac bc n0 nm [a] w (by simp [h5])
 have e:nodeTyO k nm (typeOs ts) s=leafO k nm s:=by simp [nodeTyO,h11,h12,h13]
 rw [e]
 exact some_leaf s _ L A B lc ac bc n0 nm ts w k (by simp [h11]) (by simp [h12]) (by simp [h13]) fun W hW=>specLeaf_any k n0 nm ts B bc s _ W (hv.up hW) hval (form_name hf) ⟨h11,h12,h13⟩
set_option maxHeartbeats 8000000 in
theorem specType_of (k n0:Int) (nm:ByteArray) (ts:List Ot) (ih:∀ i,(h:i<ts.length)→TypeOneO ts[i]):TypeOneO (.mk k n0 nm ts):=by
 intro s sv ov w hv ho hval hf hsz
 obtain ⟨L,lc,A,ac,rfl,_⟩:=hv.open
 obtain ⟨B,bc,rfl,_,hoa⟩:=ho.open
 simp only [Ot.kind,Ot.name,Ot.num,Ot.args] at hoa ⊢
 obtain ⟨hb0,p0,q0,z0,hs0⟩:=boxes3 w 27 30 27 #[.int .i64 s.kind,.slice L s.labels.length lc,.slice A s.args.length ac] #[.int .i64 k,.string nm,.int .i64 n0,.slice B ts.length bc] #[.int .i64 0,.slice none 0 0,.slice none 0 0]
 have HC:=Lib.hid (specSome_of k n0 nm ts ih s _ B bc _ (hv.up hb0) ((hoa.below hb0).more hb0.size) hval hf hsz)
 have hzl:=z0.lt
 have hty:typeO (.mk k n0 nm ts) s=goodO (nodeTyO k nm (typeOs ts) s):=by rw [typeO]
 rw [hty]
 generalize nodeTyO k nm (typeOs ts) s=r at *
 clear hv ho hoa hval hf hsz hs0 ih hty
 go_enter Tryz.func57,Tryz.ntmps57
 go_wp2_with fail
 generalize ((w.alloc (.cells #[.int .i64 s.kind,.slice L s.labels.length lc,.slice A s.args.length ac] 27)).alloc (.cells #[.int .i64 k,.string nm,.int .i64 n0,.slice B ts.length bc] 30)).alloc (.cells #[.int .i64 0,.slice none 0 0,.slice none 0 0] 27)=w0 at *
 refine HC.out.mono ?_
 rintro e w1 ⟨v2,t,kd,rfl,hv2,hb1,hsz,hor⟩
 have HV2:=hv2
 obtain ⟨T1,U1,T2,U2,_,rfl,_⟩:=hv2.open
 have cb1:=hb0.trans (hb1.mono hb0.size)
 have z1:=z0.below hb1 hzl
 have hb2:=(Below.refl w1.heap.size w1).alloc (Nat.le_refl _) (.cells #[.int .i64 t.kind,.slice T1 t.labels.length U1,.slice T2 t.args.length U2] 27)
 have cb2:=cb1.trans (hb2.mono cb1.size)
 have zb:=Whole1.new w1 27 #[.int .i64 t.kind,.slice T1 t.labels.length U1,.slice T2 t.args.length U2]
 have hb12:=hb1.trans (hb2.mono hb1.size)
 have z2:=z0.below hb12 hzl
 have HV3:=(HV2.keep (w':=(w1.alloc (.cells #[.int .i64 t.kind,.slice T1 t.labels.length U1,.slice T2 t.args.length U2] 27))) (fun q _ hq=>hb2.block q hq)).wide (S':=Span w0.heap.size (w1.alloc (.cells #[.int .i64 t.kind,.slice T1 t.labels.length U1,.slice T2 t.args.length U2] 27)).heap.size) (fun q hq=>⟨hq.1,Nat.lt_of_lt_of_le hq.2 hb2.size⟩)
 have hzw:w.heap.size≤w.heap.size+1+1:=by omega
 cases r with
 | none=>
  have HF:=Lib.hid (fun x y z=>(show TypePost zeroTy 0 false w (.returned (.tuple #[.agg #[.int .i64 0,.slice none 0 0,.slice none 0 0],.int .i64 0,.bool false])) ((((w1.alloc (.cells #[.int .i64 t.kind,.slice T1 t.labels.length U1,.slice T2 t.args.length U2] 27)).setCell ⟨w.heap.size+1+1,0,none⟩ x).setCell ⟨w.heap.size+1+1,1,none⟩ y).setCell ⟨w.heap.size+1+1,2,none⟩ z) from ⟨_,rfl,zero_in _ _,(((cb2.setCell hzw _).setCell hzw _).setCell hzw _)⟩))
  obtain ⟨d0,d1,d2⟩:=z2.c3
  obtain ⟨f0,f1,f2⟩:=z2.f3
  have hnone:(none:Option (Ty×Int)).isSome=false:=rfl
  clear HV2 HV3 hv2 hb1 hb2 cb1 cb2 z1 z2 zb hb12 hb0 p0 q0 z0 hor
  go_wp2
  exact bodyPost_ret (v:=.tuple #[.agg #[.int .i64 0,.slice none 0 0,.slice none 0 0],.int .i64 0,.bool false]) (by simp [results,Tryz.results57,go_sem,d0,d1,d2]) rfl (HF.out _ _ _)
 | some pr=>
  obtain ⟨t',kd'⟩:=pr
  rcases hor with hor | hor
  ·cases hor
  injection hor with hor
  injection hor with e1 e2
  subst e1 e2
  have hsome:(some (t',kd')).isSome=true:=rfl
  have HVA:=Lib.hid (specValid_any t' _ (w1.alloc (.cells #[.int .i64 t'.kind,.slice T1 t'.labels.length U1,.slice T2 t'.args.length U2] 27)) HV3.here (by omega))
  have HFF:=Lib.hid (fun w9 (h9:Below ((w1.alloc (.cells #[.int .i64 t'.kind,.slice T1 t'.labels.length U1,.slice T2 t'.args.length U2] 27))).heap.size ((w1.alloc (.cells #[.int .i64 t'.kind,.slice T1 t'.labels.length U1,.slice T2 t'.args.length U2] 27))) w9) x y z=>(set3_in (w:=w) (g:=w.heap.size+1+1) ((HV3.keep (w':=w9) fun q _ hq=>h9.block q hq).wide (S':=Span w0.heap.size w9.heap.size) fun q hq=>⟨hq.1,Nat.lt_of_lt_of_le hq.2 h9.size⟩) hzl hzw (cb2.trans (h9.mono cb2.size)) x y z))
  have hlt:=zb.lt
  have hz2l:w.heap.size+1+1<((w1.alloc (.cells #[.int .i64 t'.kind,.slice T1 t'.labels.length U1,.slice T2 t'.args.length U2] 27))).heap.size:=Nat.lt_of_lt_of_le hzl hb12.size
  cases hvb:validB t'
  ·rw [hvb] at HVA
   have HGO:=Lib.hid (show goodO (some (t',kd'))=none by simp [goodO,hvb])
   clear HV2 HV3 hv2 hb1 hb12 hvb
   go_wp2_with fail
   refine HVA.out.mono ?_
   rintro e w9 ⟨rfl,hb9⟩
   have z9:=z2.below hb9 hz2l
   obtain ⟨d0,d1,d2⟩:=z9.c3
   obtain ⟨f0,f1,f2⟩:=z9.f3
   have HF:=Lib.hid (fun x y z=>(show TypePost zeroTy 0 false w (.returned (.tuple #[.agg #[.int .i64 0,.slice none 0 0,.slice none 0 0],.int .i64 0,.bool false])) (((w9.setCell ⟨w.heap.size+1+1,0,none⟩ x).setCell ⟨w.heap.size+1+1,1,none⟩ y).setCell ⟨w.heap.size+1+1,2,none⟩ z) from ⟨_,rfl,zero_in _ _,(HFF.out w9 hb9 x y z).2⟩))
   clear hb2 cb1 cb2 z1 z2 zb hb0 p0 q0 z0 hb9 z9
   go_wp2
   exact bodyPost_ret (v:=.tuple #[.agg #[.int .i64 0,.slice none 0 0,.slice none 0 0],.int .i64 0,.bool false]) (by simp [results,Tryz.results57,go_sem,d0,d1,d2]) rfl (by rw [HGO.out];exact HF.out _ _ _)
  ·rw [hvb] at HVA
   have HGO:=Lib.hid (show goodO (some (t',kd'))=some (t',kd') by simp [goodO,hvb])
   clear HV2 HV3 hv2 hb1 hb12 hvb
   go_wp2_with fail
   refine HVA.out.mono ?_
   rintro e w9 ⟨rfl,hb9⟩
   have z9:=z2.below hb9 hz2l
   have zb9:=zb.below hb9 hlt
   obtain ⟨d0,d1,d2⟩:=z9.c3
   obtain ⟨f0,f1,f2⟩:=z9.f3
   obtain ⟨g0,g1,g2⟩:=zb9.c3
   have HF:=Lib.hid (fun x y z=>(show TypePost t' kd' true w (.returned (.tuple #[.agg #[.int .i64 t'.kind,.slice T1 t'.labels.length U1,.slice T2 t'.args.length U2],.int .i64 kd',.bool true])) (((w9.setCell ⟨w.heap.size+1+1,0,none⟩ x).setCell ⟨w.heap.size+1+1,1,none⟩ y).setCell ⟨w.heap.size+1+1,2,none⟩ z) from ⟨_,rfl,(HFF.out w9 hb9 x y z).1,(HFF.out w9 hb9 x y z).2⟩))
   clear hb2 cb1 cb2 z1 z2 zb hb0 p0 q0 z0 hb9 z9 zb9
   go_wp2
   exact bodyPost_ret (v:=.tuple #[.agg #[.int .i64 t'.kind,.slice T1 t'.labels.length U1,.slice T2 t'.args.length U2],.int .i64 kd',.bool true]) (by simp [results,Tryz.results57,go_sem,d0,d1,d2]) rfl (by rw [HGO.out];exact HF.out _ _ _)
theorem specType_any (o:Ot):TypeOneO o:=by
 induction o using Ot.ind with
 | h k n nm ts ih=>exact specType_of k n nm ts ih
set_option maxHeartbeats 8000000 in
theorem specOpticType_any (s:Ty) (o:Ot) (sv ov:Value) (w:World) (hv:TyAt w w.heap.size sv s) (ho:OtAt w w.heap.size ov o) (hs:szTy s≤1048576) (hsz:szOt o≤1048576):
  Calls Tryz.prog 11 #[sv,ov] w (TypePost (tyO (opticTypeB s o)) (kdO (opticTypeB s o)) (opticTypeB s o).isSome w):=by
 have hv1:=hv
 have ho1:=ho
 obtain ⟨L,lc,A,ac,rfl,_⟩:=hv.open
 obtain ⟨B,bc,rfl,_,_⟩:=ho.open
 obtain ⟨hb0,p0,q0,z0,hs0⟩:=boxes3 w 27 30 27 #[.int .i64 s.kind,.slice L s.labels.length lc,.slice A s.args.length ac] #[.int .i64 o.kind,.string o.name,.int .i64 o.num,.slice B o.args.length bc] #[.int .i64 0,.slice none 0 0,.slice none 0 0]
 have hv0:=hv1.up hb0
 have ho0:=ho1.up hb0
 have hzl:=z0.lt
 have hpl:=p0.lt
 have hql:=q0.lt
 have hzw:w.heap.size≤w.heap.size+1+1:=by omega
 have HVA:=Lib.hid (specValid_any s _ _ hv0 hs)
 have HOP:=Lib.hid (fun W h=>specIsOptic_any o (.agg #[.int .i64 o.kind,.string o.name,.int .i64 o.num,.slice B o.args.length bc]) W h hsz)
 clear hv ho hv1 ho1 hs0
 cases hvs:validB s
 ·rw [hvs] at HVA
  have HRR:=Lib.hid (show opticTypeB s o=none by simp [opticTypeB,hvs])
  clear hvs HOP
  go_enter Tryz.func11,Tryz.ntmps11
  go_wp2_with fail
  generalize ((w.alloc (.cells #[.int .i64 s.kind,.slice L s.labels.length lc,.slice A s.args.length ac] 27)).alloc (.cells #[.int .i64 o.kind,.string o.name,.int .i64 o.num,.slice B o.args.length bc] 30)).alloc (.cells #[.int .i64 0,.slice none 0 0,.slice none 0 0] 27)=w0 at *
  refine HVA.out.mono ?_
  rintro e w1 ⟨rfl,hb1⟩
  have cb9:=hb0.trans (hb1.mono hb0.size)
  have z9:=z0.below hb1 hzl
  clear hb0 hb1 p0 q0 z0
  have HF:=Lib.hid (fun x y z=>(show TypePost zeroTy 0 false w (.returned (.tuple #[.agg #[.int .i64 0,.slice none 0 0,.slice none 0 0],.int .i64 0,.bool false])) (((w1.setCell ⟨w.heap.size+1+1,0,none⟩ x).setCell ⟨w.heap.size+1+1,1,none⟩ y).setCell ⟨w.heap.size+1+1,2,none⟩ z) from ⟨_,rfl,zero_in _ _,(((cb9.setCell hzw _).setCell hzw _).setCell hzw _)⟩))
  obtain ⟨d0,d1,d2⟩:=z9.c3
  obtain ⟨f0,f1,f2⟩:=z9.f3
  clear cb9 z9
  go_wp2
  exact bodyPost_ret (v:=.tuple #[.agg #[.int .i64 0,.slice none 0 0,.slice none 0 0],.int .i64 0,.bool false]) (by simp [results,Tryz.results11,go_sem,d0,d1,d2]) rfl (by rw [HRR.out];exact HF.out _ _ _)
 ·rw [hvs] at HVA
  cases hos:opticB o
  ·have HRR:=Lib.hid (show opticTypeB s o=none by simp [opticTypeB,hos])
   rw [hos] at HOP
   clear hvs hos
   go_enter Tryz.func11,Tryz.ntmps11
   go_wp2_with fail
   generalize ((w.alloc (.cells #[.int .i64 s.kind,.slice L s.labels.length lc,.slice A s.args.length ac] 27)).alloc (.cells #[.int .i64 o.kind,.string o.name,.int .i64 o.num,.slice B o.args.length bc] 30)).alloc (.cells #[.int .i64 0,.slice none 0 0,.slice none 0 0] 27)=w0 at *
   refine HVA.out.mono ?_
   rintro e w1 ⟨rfl,hb1⟩
   have q1:=q0.below hb1 hql
   obtain ⟨b0,b1,b2,b3⟩:=q1.c4
   go_wp2_with fail
   refine (HOP.out w1 (ho0.up hb1)).mono ?_
   rintro e w2 ⟨rfl,hb2⟩
   have hb12:=hb1.trans (hb2.mono hb1.size)
   have cb9:=hb0.trans (hb12.mono hb0.size)
   have z9:=z0.below hb12 hzl
   clear hb0 hb1 hb2 hb12 p0 q0 z0 q1 b0 b1 b2 b3
   have HF:=Lib.hid (fun x y z=>(show TypePost zeroTy 0 false w (.returned (.tuple #[.agg #[.int .i64 0,.slice none 0 0,.slice none 0 0],.int .i64 0,.bool false])) (((w2.setCell ⟨w.heap.size+1+1,0,none⟩ x).setCell ⟨w.heap.size+1+1,1,none⟩ y).setCell ⟨w.heap.size+1+1,2,none⟩ z) from ⟨_,rfl,zero_in _ _,(((cb9.setCell hzw _).setCell hzw _).setCell hzw _)⟩))
   obtain ⟨d0,d1,d2⟩:=z9.c3
   obtain ⟨f0,f1,f2⟩:=z9.f3
   clear cb9 z9
   go_wp2
   exact bodyPost_ret (v:=.tuple #[.agg #[.int .i64 0,.slice none 0 0,.slice none 0 0],.int .i64 0,.bool false]) (by simp [results,Tryz.results11,go_sem,d0,d1,d2]) rfl (by rw [HRR.out];exact HF.out _ _ _)
  ·have HRR:=Lib.hid (show opticTypeB s o=typeO o s by simp [opticTypeB,hvs,hos])
   rw [hos] at HOP
   have hfo:formOt o=true:=by
    unfold opticB at hos
    simp only [Bool.and_eq_true] at hos
    exact hos.2
   have HT:=Lib.hid (fun W h h'=>specType_any o s (.agg #[.int .i64 s.kind,.slice L s.labels.length lc,.slice A s.args.length ac]) (.agg #[.int .i64 o.kind,.string o.name,.int .i64 o.num,.slice B o.args.length bc]) W h h' hvs hfo hsz)
   have HE1:=Lib.hid (show tyO (opticTypeB s o)=tyO (typeO o s)∧kdO (opticTypeB s o)=kdO (typeO o s)∧(opticTypeB s o).isSome=(typeO o s).isSome by rw [HRR.out];exact ⟨rfl,rfl,rfl⟩)
   clear HRR
   generalize (typeO o s)=r at *
   clear hvs hos hfo
   go_enter Tryz.func11,Tryz.ntmps11
   go_wp2_with fail
   generalize ((w.alloc (.cells #[.int .i64 s.kind,.slice L s.labels.length lc,.slice A s.args.length ac] 27)).alloc (.cells #[.int .i64 o.kind,.string o.name,.int .i64 o.num,.slice B o.args.length bc] 30)).alloc (.cells #[.int .i64 0,.slice none 0 0,.slice none 0 0] 27)=w0 at *
   refine HVA.out.mono ?_
   rintro e w1 ⟨rfl,hb1⟩
   have q1:=q0.below hb1 hql
   obtain ⟨b0,b1,b2,b3⟩:=q1.c4
   go_wp2_with fail
   refine (HOP.out w1 (ho0.up hb1)).mono ?_
   rintro e w2 ⟨rfl,hb2⟩
   clear b0 b1 b2 b3
   have hb12:=hb1.trans (hb2.mono hb1.size)
   have q1:=q0.below hb12 hql
   have p1:=p0.below hb12 hpl
   obtain ⟨b0,b1,b2,b3⟩:=q1.c4
   obtain ⟨a0,a1,a2⟩:=p1.c3
   go_wp2_with fail
   refine (HT.out w2 (hv0.up hb12) (ho0.up hb12)).mono ?_
   rintro e w3 ⟨v3,rfl,hv3,hb3⟩
   have HV3:=hv3
   obtain ⟨T1,U1,T2,U2,_,rfl,_⟩:=hv3.open
   have hb13:=hb12.trans (hb3.mono hb12.size)
   generalize r.isSome=okb at *
   generalize kdO r=kd at *
   generalize tyO r=t at *
   have ha:=(Below.refl w3.heap.size w3).alloc (Nat.le_refl _) (.cells #[.int .i64 t.kind,.slice T1 t.labels.length U1,.slice T2 t.args.length U2] 27)
   have hb14:=hb13.trans (ha.mono hb13.size)
   have z9:=z0.below hb14 hzl
   have h12s:=hb12.size
   have HF:=Lib.hid (fun x y z=>(show TypePost t kd okb w (.returned (.tuple #[.agg #[.int .i64 t.kind,.slice T1 t.labels.length U1,.slice T2 t.args.length U2],.int .i64 kd,.bool okb])) ((((w3.alloc (.cells #[.int .i64 t.kind,.slice T1 t.labels.length U1,.slice T2 t.args.length U2] 27)).setCell ⟨w.heap.size+1+1,0,none⟩ x).setCell ⟨w.heap.size+1+1,1,none⟩ y).setCell ⟨w.heap.size+1+1,2,none⟩ z) from
    ⟨_,rfl,set3_in ((HV3.keep (w':=w3.alloc (.cells #[.int .i64 t.kind,.slice T1 t.labels.length U1,.slice T2 t.args.length U2] 27)) fun q _ hq=>ha.block q hq).wide (S':=Span w2.heap.size (w3.alloc (.cells #[.int .i64 t.kind,.slice T1 t.labels.length U1,.slice T2 t.args.length U2] 27)).heap.size) fun q hq=>⟨hq.1,Nat.lt_of_lt_of_le hq.2 ha.size⟩) (Nat.lt_of_lt_of_le hzl h12s) hzw (hb0.trans (hb14.mono hb0.size)) x y z⟩))
   obtain ⟨d0,d1,d2⟩:=z9.c3
   obtain ⟨f0,f1,f2⟩:=z9.f3
   clear hb0 hb1 hb2 hb12 hb3 hb13 hb14 ha z9 HV3 hv3 p0 q0 z0 p1 q1 a0 a1 a2 b0 b1 b2 b3
   go_wp2
   exact bodyPost_ret (v:=.tuple #[.agg #[.int .i64 t.kind,.slice T1 t.labels.length U1,.slice T2 t.args.length U2],.int .i64 kd,.bool okb]) (by simp [results,Tryz.results11,go_sem,d0,d1,d2]) rfl (by rw [HE1.out.1,HE1.out.2.1,HE1.out.2.2];exact HF.out _ _ _)
set_option maxHeartbeats 4000000 in
theorem specIsTyped_any (s:Ty) (o:Ot) (sv ov:Value) (w:World) (hv:TyAt w w.heap.size sv s) (ho:OtAt w w.heap.size ov o) (hs:szTy s≤1048576) (hsz:szOt o≤1048576):
  Calls Tryz.prog 70 #[sv,ov] w (BoolIs (opticTypeB s o).isSome w):=by
 have hv1:=hv
 have ho1:=ho
 obtain ⟨L,lc,A,ac,rfl,_⟩:=hv.open
 obtain ⟨B,bc,rfl,_,_⟩:=ho.open
 obtain ⟨hb0,p0,q0,hs0⟩:=boxes2 w 27 30 #[.int .i64 s.kind,.slice L s.labels.length lc,.slice A s.args.length ac] #[.int .i64 o.kind,.string o.name,.int .i64 o.num,.slice B o.args.length bc]
 have HT:=Lib.hid (specOpticType_any s o _ _ _ (hv1.up hb0) (ho1.up hb0) hs hsz)
 generalize (opticTypeB s o).isSome=okb at *
 generalize kdO (opticTypeB s o)=kd at *
 generalize tyO (opticTypeB s o)=t at *
 clear hv ho hv1 ho1 hs0 p0 q0
 go_enter Tryz.func70,Tryz.ntmps70
 go_wp2_with fail
 generalize (w.alloc (.cells #[.int .i64 s.kind,.slice L s.labels.length lc,.slice A s.args.length ac] 27)).alloc (.cells #[.int .i64 o.kind,.string o.name,.int .i64 o.num,.slice B o.args.length bc] 30)=w0 at *
 refine HT.out.mono ?_
 rintro e w1 ⟨v1,rfl,hv3,hb1⟩
 obtain ⟨T1,U1,T2,U2,_,rfl,_⟩:=hv3.open
 have hb2:=(hb0.trans (hb1.mono hb0.size)).alloc (by have:=hb0.size;have:=hb1.size;omega) (.cells #[.int .i64 t.kind,.slice T1 t.labels.length U1,.slice T2 t.args.length U2] 27)
 clear hb0 hb1 hv3
 go_wp2
 go_ret
 exact ⟨rfl,hb2⟩
end Go.Proofs.YtfnblkcmcfofoaaGreatDoor
