/- Lemmas: TypKindB. -/
import Derived.Test.YtfnblkcmcfofoaaGreatDoorLawFoci_36
import Derived.Test.YtfnblkcmcfofoaaGreatDoorLawFoci_38
import Derived.Test.YtfnblkcmcfofoaaGreatDoorLawFoci_35

namespace Go.Proofs.YtfnblkcmcfofoaaGreatDoor
set_option maxRecDepth 100000
set_option linter.unusedSimpArgs false
open Go.RowKit
attribute [local go_sem ↓] Go.wp_at_zero Go.wp_at_succ
set_option maxHeartbeats 4000000 in
theorem typKind_map (o1:Ot) (h1:TypOne o1) (f1:formOt o1=true) (n0:Int) (nm:ByteArray) (B:Option Addr) (bc:Nat) {N:Nat→Prop} {u:Value} {r:Option (Ty×Int)} (s:Ty) (sv:Value) (w:World) (hN:∀ b,N b→b<w.heap.size) (hU:UnfitAt w u) (hJ:JoinsAt w) (hv:OwnA N w sv s) (ho:OtAt w w.heap.size (.agg #[.int .i64 11,.string nm,.int .i64 n0,.slice B 1 bc]) (.mk 11 n0 nm [o1])) (hval:validB s=true) (hf:formOt (.mk 11 n0 nm [o1])=true) (hz:szOt (.mk 11 n0 nm [o1])≤1048576) (hr:r=mapO (typeO o1) s):
  Calls Tryz.prog 147 #[sv,.agg #[.int .i64 11,.string nm,.int .i64 n0,.slice B 1 bc]] w (TypPost N u r w):=by
 have hnm:=form_name hf
 have hse:=szTy_valid hval
 obtain ⟨L,lc,A,ac,rfl⟩:=hv.open
 obtain ⟨hb0,p0,q0,zz0,hs0⟩:=boxes3 w 27 30 83 #[.int .i64 s.kind,.slice L s.labels.length lc,.slice A s.args.length ac] #[.int .i64 11,.string nm,.int .i64 n0,.slice B 1 bc] #[.int .i64 0,.slice none 0 0,.slice none 0 0,.int .i64 0]
 have HV0:=Lib.hid ((hv.late (w.heap.size+1+1) (by omega)).up hb0)
 have HO0:=Lib.hid (ho.up hb0)
 have HN0:=Lib.hid (show ∀ b,(N b∨b=w.heap.size+1+1)→b<(((w.alloc (.cells #[.int .i64 s.kind,.slice L s.labels.length lc,.slice A s.args.length ac] 27)).alloc (.cells #[.int .i64 11,.string nm,.int .i64 n0,.slice B 1 bc] 30)).alloc (.cells #[.int .i64 0,.slice none 0 0,.slice none 0 0,.int .i64 0] 83)).heap.size from fun b hb=>hb.elim (fun hb=>Nat.lt_of_lt_of_le (hN b hb) hb0.size) (fun e=>e ▸ zz0.lt))
 have HU0:=Lib.hid (hU.below hb0)
 have HJ0:=Lib.hid (hJ.below hb0)
 obtain ⟨hug,huc,ua,rfl⟩:=hU
 have HR:=Lib.hid hr
 have HB0:=Lib.hid hb0
 have HZ0:=Lib.hid zz0
 have HP0:=Lib.hid p0
 have HQ0:=Lib.hid q0
 have HZZ:=Lib.hid hz
 have HFO:=Lib.hid hf
 have HOW:=Lib.hid ho
 clear hv hN hr hJ hug huc ho hb0 zz0 p0 q0 hs0 hz hf
 go_enter Tryz.func147,Tryz.ntmps147
 go_upto_region 1 with fail
 generalize ((w.alloc (.cells #[.int .i64 s.kind,.slice L s.labels.length lc,.slice A s.args.length ac] 27)).alloc (.cells #[.int .i64 11,.string nm,.int .i64 n0,.slice B 1 bc] 30)).alloc (.cells #[.int .i64 0,.slice none 0 0,.slice none 0 0,.int .i64 0] 83)=w0 at *
 obtain ⟨sp0,sp1,sp2⟩:=HP0.out.c3
 obtain ⟨qo0,qo1,qo2,qo3⟩:=HQ0.out.c4
 have hzp:=szOt_eq (.mk 11 n0 nm [o1])
 have hzq:=HZZ.out
 have z1:szOt o1≤1048576:=by
  have:=szOt_part [o1] 0 (by simp)
  simp only [Ot.args] at hzp
  simp only [List.getElem_cons_zero] at this
  omega
 have hoa:=oargs_at (ts:=[o1]) HO0.out
 obtain ⟨b,off,B1,bc1,rfl,hbl,x0,x2,x1,x3,hx1⟩:=hoa.elem 0 (by simp)
 have y00:w0.cell? ⟨b,off,none⟩=some (.int .i64 o1.kind):=by have h:=x0;simp only [Nat.zero_mul,Nat.add_zero] at h;exact h
 have y01:w0.cell? ⟨b,off+1,none⟩=some (.string o1.name):=by have h:=x1;simp only [Nat.zero_mul,Nat.add_zero] at h;exact h
 have y02:w0.cell? ⟨b,off+2,none⟩=some (.int .i64 o1.num):=by have h:=x2;simp only [Nat.zero_mul,Nat.add_zero] at h;exact h
 have y03:w0.cell? ⟨b,off+3,none⟩=some (.slice B1 o1.args.length bc1):=by have h:=x3;simp only [Nat.zero_mul,Nat.add_zero] at h;exact h
 have HX1:Hid (OtAt w0 w0.heap.size (.agg #[.int .i64 o1.kind,.string o1.name,.int .i64 o1.num,.slice B1 o1.args.length bc1]) o1):=Lib.hid hx1
 have hpl:=HP0.out.lt
 have hql:=HQ0.out.lt
 have hnp:w.heap.size+1+1≠w.heap.size:=by omega
 have hnq:w.heap.size+1+1≠w.heap.size+1:=by omega
 have hbw:b<w.heap.size:=by
  obtain ⟨b9,o9,_,_,h9,h9',_⟩:=(oargs_at (ts:=[o1]) HOW.out).elem 0 (by simp)
  simp only [Option.some.injEq,Addr.mk.injEq] at h9
  omega
 have hne:w.heap.size+1+1≠b:=by omega
 have HC:Hid (Calls Tryz.prog 180 #[.agg #[.int .i64 s.kind,.slice L s.labels.length lc,.slice A s.args.length ac],.agg #[.int .i64 o1.kind,.string o1.name,.int .i64 o1.num,.slice B1 o1.args.length bc1]] w0.drew (TypPost (fun b=>N b∨b=w.heap.size+1+1) (.iface 246 (.pointer (some ua))) r w0.drew)):=Lib.hid (typMap_any o1 h1 (N:=fun b=>N b∨b=w.heap.size+1+1) (u:=(.iface 246 (.pointer (some ua)))) (r:=r) s _ _ _ HN0.out (HU0.out.below (Below.refl _ _).drew) (HJ0.out.below (Below.refl _ _).drew) (HV0.out.drew) (HX1.out.up (Below.refl _ _).drew) hval f1 z1 HR.out)
 clear hval hse hnm hzp hzq z1 hoa hx1 x0 x1 x2 x3 h1 f1
 go_upto_region 24 with fail
 have KS:=Lib.hid (fun (x:World) (hx:∀ q,q<w0.heap.size→w.heap.size+1+1≠q→x.heap[q]?=w0.heap[q]?)=>(show x.cell? ⟨w.heap.size,0,none⟩=some (.int .i64 s.kind)∧x.cell? ⟨w.heap.size,1,none⟩=some (.slice L s.labels.length lc)∧x.cell? ⟨w.heap.size,2,none⟩=some (.slice A s.args.length ac)∧x.cell? ⟨w.heap.size+1,3,none⟩=some (.slice (some ⟨b,off,none⟩) 1 bc)∧x.cell? ⟨b,off,none⟩=some (.int .i64 o1.kind)∧x.cell? ⟨b,off+1,none⟩=some (.string o1.name)∧x.cell? ⟨b,off+2,none⟩=some (.int .i64 o1.num)∧x.cell? ⟨b,off+3,none⟩=some (.slice B1 o1.args.length bc1) from ⟨kH (HP0.out.cell 0) (hx _ hpl hnp),kH (HP0.out.cell 1) (hx _ hpl hnp),kH (HP0.out.cell 2) (hx _ hpl hnp),kH (HQ0.out.cell 3) (hx _ hql hnq),kH y00 (hx _ hbl hne),kH y01 (hx _ hbl hne),kH y02 (hx _ hbl hne),kH y03 (hx _ hbl hne)⟩))
 have hD:=(Below.refl w0.heap.size w0).drew
 go_region_held3 (fun x:World=>x.cell? ⟨w.heap.size,0,none⟩=some (.int .i64 s.kind)∧x.cell? ⟨w.heap.size,1,none⟩=some (.slice L s.labels.length lc)∧x.cell? ⟨w.heap.size,2,none⟩=some (.slice A s.args.length ac)∧x.cell? ⟨w.heap.size+1,3,none⟩=some (.slice (some ⟨b,off,none⟩) 1 bc)∧x.cell? ⟨b,off,none⟩=some (.int .i64 o1.kind)∧x.cell? ⟨b,off+1,none⟩=some (.string o1.name)∧x.cell? ⟨b,off+2,none⟩=some (.int .i64 o1.num)∧x.cell? ⟨b,off+3,none⟩=some (.slice B1 o1.args.length bc1)) (first | with_reducible exact KS.out _ (fun q hq _=>hD.block q hq) | with_reducible exact KS.out _ (fun q hq _=>hb9.block q hq) | with_reducible exact KS.out _ (fun q hq hne=>(set4_heap _ _ q (Ne.symm hne) _ _ _ _).trans (hb9.block q hq))) (first | (go_simp;go_at_call 180;(with_reducible refine (HC.out).mono ?_);rintro e w9 ⟨L9,lc9,A9,ac9,t9,k9,x9,rfl,hv9,hb9',hs9,hor9⟩;have hb9:=hD.trans hb9';have z9:=HZ0.out.below hb9 HZ0.out.lt;obtain ⟨d0,d1,d2,d3⟩:=z9.c4;obtain ⟨df0,df1,df2,df3⟩:=z9.f4;have HF:=Lib.hid (fun a b c d=>typ_fin (r:=r) (show w.heap.size≤w.heap.size+1+1 by omega) (HB0.out.trans (hb9.mono HB0.out.size)) hv9 hs9 hor9 a b c d);clear hv9 hs9 hor9;clear hb9' z9))
 all_goals go_wp2
 all_goals exact bodyPost_ret (v:=.tuple #[.agg #[.int .i64 t9.kind,.slice L9 t9.labels.length lc9,.slice A9 t9.args.length ac9,.int .i64 k9],x9]) (by simp [results,Tryz.results147,go_sem,d0,d1,d2,d3]) rfl (HF.out _ _ _ _)
set_option maxHeartbeats 4000000 in
theorem typKind_then (o1 o2:Ot) (h1:TypOne o1) (h2:TypOne o2) (f1:formOt o1=true) (f2:formOt o2=true) (n0:Int) (nm:ByteArray) (B:Option Addr) (bc:Nat) {N:Nat→Prop} {u:Value} {r:Option (Ty×Int)} (s:Ty) (sv:Value) (w:World) (hN:∀ b,N b→b<w.heap.size) (hU:UnfitAt w u) (hJ:JoinsAt w) (hv:OwnA N w sv s) (ho:OtAt w w.heap.size (.agg #[.int .i64 12,.string nm,.int .i64 n0,.slice B 2 bc]) (.mk 12 n0 nm [o1,o2])) (hval:validB s=true) (hf:formOt (.mk 12 n0 nm [o1,o2])=true) (hz:szOt (.mk 12 n0 nm [o1,o2])≤1048576) (hr:r=thenO (typeO o1) (typeO o2) s):
  Calls Tryz.prog 147 #[sv,.agg #[.int .i64 12,.string nm,.int .i64 n0,.slice B 2 bc]] w (TypPost N u r w):=by
 have hnm:=form_name hf
 have hse:=szTy_valid hval
 obtain ⟨L,lc,A,ac,rfl⟩:=hv.open
 obtain ⟨hb0,p0,q0,zz0,hs0⟩:=boxes3 w 27 30 83 #[.int .i64 s.kind,.slice L s.labels.length lc,.slice A s.args.length ac] #[.int .i64 12,.string nm,.int .i64 n0,.slice B 2 bc] #[.int .i64 0,.slice none 0 0,.slice none 0 0,.int .i64 0]
 have HV0:=Lib.hid ((hv.late (w.heap.size+1+1) (by omega)).up hb0)
 have HO0:=Lib.hid (ho.up hb0)
 have HN0:=Lib.hid (show ∀ b,(N b∨b=w.heap.size+1+1)→b<(((w.alloc (.cells #[.int .i64 s.kind,.slice L s.labels.length lc,.slice A s.args.length ac] 27)).alloc (.cells #[.int .i64 12,.string nm,.int .i64 n0,.slice B 2 bc] 30)).alloc (.cells #[.int .i64 0,.slice none 0 0,.slice none 0 0,.int .i64 0] 83)).heap.size from fun b hb=>hb.elim (fun hb=>Nat.lt_of_lt_of_le (hN b hb) hb0.size) (fun e=>e ▸ zz0.lt))
 have HU0:=Lib.hid (hU.below hb0)
 have HJ0:=Lib.hid (hJ.below hb0)
 obtain ⟨hug,huc,ua,rfl⟩:=hU
 have HR:=Lib.hid hr
 have HB0:=Lib.hid hb0
 have HZ0:=Lib.hid zz0
 have HP0:=Lib.hid p0
 have HQ0:=Lib.hid q0
 have HZZ:=Lib.hid hz
 have HFO:=Lib.hid hf
 have HOW:=Lib.hid ho
 clear hv hN hr hJ hug huc ho hb0 zz0 p0 q0 hs0 hz hf
 go_enter Tryz.func147,Tryz.ntmps147
 go_upto_region 1 with fail
 generalize ((w.alloc (.cells #[.int .i64 s.kind,.slice L s.labels.length lc,.slice A s.args.length ac] 27)).alloc (.cells #[.int .i64 12,.string nm,.int .i64 n0,.slice B 2 bc] 30)).alloc (.cells #[.int .i64 0,.slice none 0 0,.slice none 0 0,.int .i64 0] 83)=w0 at *
 obtain ⟨sp0,sp1,sp2⟩:=HP0.out.c3
 obtain ⟨qo0,qo1,qo2,qo3⟩:=HQ0.out.c4
 have hzp:=szOt_eq (.mk 12 n0 nm [o1,o2])
 have hzq:=HZZ.out
 have z1:szOt o1≤1048576:=by
  have:=szOt_part [o1,o2] 0 (by simp)
  simp only [Ot.args] at hzp
  simp only [List.getElem_cons_zero] at this
  omega
 have z2:szOt o2≤1048576:=by
  have:=szOt_part [o1,o2] 1 (by simp)
  simp only [Ot.args] at hzp
  simp only [List.getElem_cons_succ,List.getElem_cons_zero] at this
  omega
 have hoa:=oargs_at (ts:=[o1,o2]) HO0.out
 obtain ⟨b,off,B1,bc1,rfl,hbl,x0,x2,x1,x3,hx1⟩:=hoa.elem 0 (by simp)
 have y00:w0.cell? ⟨b,off,none⟩=some (.int .i64 o1.kind):=by have h:=x0;simp only [Nat.zero_mul,Nat.add_zero] at h;exact h
 have y01:w0.cell? ⟨b,off+1,none⟩=some (.string o1.name):=by have h:=x1;simp only [Nat.zero_mul,Nat.add_zero] at h;exact h
 have y02:w0.cell? ⟨b,off+2,none⟩=some (.int .i64 o1.num):=by have h:=x2;simp only [Nat.zero_mul,Nat.add_zero] at h;exact h
 have y03:w0.cell? ⟨b,off+3,none⟩=some (.slice B1 o1.args.length bc1):=by have h:=x3;simp only [Nat.zero_mul,Nat.add_zero] at h;exact h
 have HX1:Hid (OtAt w0 w0.heap.size (.agg #[.int .i64 o1.kind,.string o1.name,.int .i64 o1.num,.slice B1 o1.args.length bc1]) o1):=Lib.hid hx1
 obtain ⟨b',off',B2,bc2,hbb,_,x0',x2',x1',x3',hx2⟩:=hoa.elem 1 (by simp)
 simp only [Option.some.injEq,Addr.mk.injEq,and_true] at hbb
 obtain ⟨rfl,rfl⟩:=hbb
 have y10:w0.cell? ⟨b,off+4,none⟩=some (.int .i64 o2.kind):=by have h:=x0';simp only [Nat.one_mul] at h;exact h
 have y11:w0.cell? ⟨b,off+4+1,none⟩=some (.string o2.name):=by have h:=x1';simp only [Nat.one_mul] at h;exact h
 have y12:w0.cell? ⟨b,off+4+2,none⟩=some (.int .i64 o2.num):=by have h:=x2';simp only [Nat.one_mul] at h;exact h
 have y13:w0.cell? ⟨b,off+4+3,none⟩=some (.slice B2 o2.args.length bc2):=by have h:=x3';simp only [Nat.one_mul] at h;exact h
 have HX2:Hid (OtAt w0 w0.heap.size (.agg #[.int .i64 o2.kind,.string o2.name,.int .i64 o2.num,.slice B2 o2.args.length bc2]) o2):=Lib.hid hx2
 have hpl:=HP0.out.lt
 have hql:=HQ0.out.lt
 have hnp:w.heap.size+1+1≠w.heap.size:=by omega
 have hnq:w.heap.size+1+1≠w.heap.size+1:=by omega
 have hbw:b<w.heap.size:=by
  obtain ⟨b9,o9,_,_,h9,h9',_⟩:=(oargs_at (ts:=[o1,o2]) HOW.out).elem 0 (by simp)
  simp only [Option.some.injEq,Addr.mk.injEq] at h9
  omega
 have hne:w.heap.size+1+1≠b:=by omega
 have HC:Hid (Calls Tryz.prog 181 #[.agg #[.int .i64 s.kind,.slice L s.labels.length lc,.slice A s.args.length ac],.agg #[.int .i64 o1.kind,.string o1.name,.int .i64 o1.num,.slice B1 o1.args.length bc1],.agg #[.int .i64 o2.kind,.string o2.name,.int .i64 o2.num,.slice B2 o2.args.length bc2]] w0.drew (TypPost (fun b=>N b∨b=w.heap.size+1+1) (.iface 246 (.pointer (some ua))) r w0.drew)):=Lib.hid (typThen_any o1 o2 h1 h2 (N:=fun b=>N b∨b=w.heap.size+1+1) (u:=(.iface 246 (.pointer (some ua)))) (r:=r) s _ _ _ _ HN0.out (HU0.out.below (Below.refl _ _).drew) (HJ0.out.below (Below.refl _ _).drew) (HV0.out.drew) (HX1.out.up (Below.refl _ _).drew) (HX2.out.up (Below.refl _ _).drew) hval f1 f2 z1 z2 HR.out)
 clear hval hse hnm hzp hzq z1 hoa hx1 x0 x1 x2 x3 h1 f1 z2 hx2 x0' x1' x2' x3' h2 f2
 go_upto_region 26 with fail
 have KS:=Lib.hid (fun (x:World) (hx:∀ q,q<w0.heap.size→w.heap.size+1+1≠q→x.heap[q]?=w0.heap[q]?)=>(show x.cell? ⟨w.heap.size,0,none⟩=some (.int .i64 s.kind)∧x.cell? ⟨w.heap.size,1,none⟩=some (.slice L s.labels.length lc)∧x.cell? ⟨w.heap.size,2,none⟩=some (.slice A s.args.length ac)∧x.cell? ⟨w.heap.size+1,3,none⟩=some (.slice (some ⟨b,off,none⟩) 2 bc)∧x.cell? ⟨b,off,none⟩=some (.int .i64 o1.kind)∧x.cell? ⟨b,off+1,none⟩=some (.string o1.name)∧x.cell? ⟨b,off+2,none⟩=some (.int .i64 o1.num)∧x.cell? ⟨b,off+3,none⟩=some (.slice B1 o1.args.length bc1)∧x.cell? ⟨b,off+4,none⟩=some (.int .i64 o2.kind)∧x.cell? ⟨b,off+4+1,none⟩=some (.string o2.name)∧x.cell? ⟨b,off+4+2,none⟩=some (.int .i64 o2.num)∧x.cell? ⟨b,off+4+3,none⟩=some (.slice B2 o2.args.length bc2) from ⟨kH (HP0.out.cell 0) (hx _ hpl hnp),kH (HP0.out.cell 1) (hx _ hpl hnp),kH (HP0.out.cell 2) (hx _ hpl hnp),kH (HQ0.out.cell 3) (hx _ hql hnq),kH y00 (hx _ hbl hne),kH y01 (hx _ hbl hne),kH y02 (hx _ hbl hne),kH y03 (hx _ hbl hne),kH y10 (hx _ hbl hne),kH y11 (hx _ hbl hne),kH y12 (hx _ hbl hne),kH y13 (hx _ hbl hne)⟩))
 have hD:=(Below.refl w0.heap.size w0).drew
 go_region_held3 (fun x:World=>x.cell? ⟨w.heap.size,0,none⟩=some (.int .i64 s.kind)∧x.cell? ⟨w.heap.size,1,none⟩=some (.slice L s.labels.length lc)∧x.cell? ⟨w.heap.size,2,none⟩=some (.slice A s.args.length ac)∧x.cell? ⟨w.heap.size+1,3,none⟩=some (.slice (some ⟨b,off,none⟩) 2 bc)∧x.cell? ⟨b,off,none⟩=some (.int .i64 o1.kind)∧x.cell? ⟨b,off+1,none⟩=some (.string o1.name)∧x.cell? ⟨b,off+2,none⟩=some (.int .i64 o1.num)∧x.cell? ⟨b,off+3,none⟩=some (.slice B1 o1.args.length bc1)∧x.cell? ⟨b,off+4,none⟩=some (.int .i64 o2.kind)∧x.cell? ⟨b,off+4+1,none⟩=some (.string o2.name)∧x.cell? ⟨b,off+4+2,none⟩=some (.int .i64 o2.num)∧x.cell? ⟨b,off+4+3,none⟩=some (.slice B2 o2.args.length bc2)) (first | with_reducible exact KS.out _ (fun q hq _=>hD.block q hq) | with_reducible exact KS.out _ (fun q hq _=>hb9.block q hq) | with_reducible exact KS.out _ (fun q hq hne=>(set4_heap _ _ q (Ne.symm hne) _ _ _ _).trans (hb9.block q hq))) (first | (go_simp;go_at_call 181;(with_reducible refine (HC.out).mono ?_);rintro e w9 ⟨L9,lc9,A9,ac9,t9,k9,x9,rfl,hv9,hb9',hs9,hor9⟩;have hb9:=hD.trans hb9';have z9:=HZ0.out.below hb9 HZ0.out.lt;obtain ⟨d0,d1,d2,d3⟩:=z9.c4;obtain ⟨df0,df1,df2,df3⟩:=z9.f4;have HF:=Lib.hid (fun a b c d=>typ_fin (r:=r) (show w.heap.size≤w.heap.size+1+1 by omega) (HB0.out.trans (hb9.mono HB0.out.size)) hv9 hs9 hor9 a b c d);clear hv9 hs9 hor9;clear hb9' z9))
 all_goals go_wp2
 all_goals exact bodyPost_ret (v:=.tuple #[.agg #[.int .i64 t9.kind,.slice L9 t9.labels.length lc9,.slice A9 t9.args.length ac9,.int .i64 k9],x9]) (by simp [results,Tryz.results147,go_sem,d0,d1,d2,d3]) rfl (HF.out _ _ _ _)
set_option maxHeartbeats 4000000 in
theorem typKind_else (o1 o2:Ot) (h1:TypOne o1) (h2:TypOne o2) (f1:formOt o1=true) (f2:formOt o2=true) (n0:Int) (nm:ByteArray) (B:Option Addr) (bc:Nat) {N:Nat→Prop} {u:Value} {r:Option (Ty×Int)} (s:Ty) (sv:Value) (w:World) (hN:∀ b,N b→b<w.heap.size) (hU:UnfitAt w u) (hJ:JoinsAt w) (hv:OwnA N w sv s) (ho:OtAt w w.heap.size (.agg #[.int .i64 13,.string nm,.int .i64 n0,.slice B 2 bc]) (.mk 13 n0 nm [o1,o2])) (hval:validB s=true) (hf:formOt (.mk 13 n0 nm [o1,o2])=true) (hz:szOt (.mk 13 n0 nm [o1,o2])≤1048576) (hr:r=elseO (typeO o1) (typeO o2) s):
  Calls Tryz.prog 147 #[sv,.agg #[.int .i64 13,.string nm,.int .i64 n0,.slice B 2 bc]] w (TypPost N u r w):=by
 have hnm:=form_name hf
 have hse:=szTy_valid hval
 obtain ⟨L,lc,A,ac,rfl⟩:=hv.open
 obtain ⟨hb0,p0,q0,zz0,hs0⟩:=boxes3 w 27 30 83 #[.int .i64 s.kind,.slice L s.labels.length lc,.slice A s.args.length ac] #[.int .i64 13,.string nm,.int .i64 n0,.slice B 2 bc] #[.int .i64 0,.slice none 0 0,.slice none 0 0,.int .i64 0]
 have HV0:=Lib.hid ((hv.late (w.heap.size+1+1) (by omega)).up hb0)
 have HO0:=Lib.hid (ho.up hb0)
 have HN0:=Lib.hid (show ∀ b,(N b∨b=w.heap.size+1+1)→b<(((w.alloc (.cells #[.int .i64 s.kind,.slice L s.labels.length lc,.slice A s.args.length ac] 27)).alloc (.cells #[.int .i64 13,.string nm,.int .i64 n0,.slice B 2 bc] 30)).alloc (.cells #[.int .i64 0,.slice none 0 0,.slice none 0 0,.int .i64 0] 83)).heap.size from fun b hb=>hb.elim (fun hb=>Nat.lt_of_lt_of_le (hN b hb) hb0.size) (fun e=>e ▸ zz0.lt))
 have HU0:=Lib.hid (hU.below hb0)
 have HJ0:=Lib.hid (hJ.below hb0)
 obtain ⟨hug,huc,ua,rfl⟩:=hU
 have HR:=Lib.hid hr
 have HB0:=Lib.hid hb0
 have HZ0:=Lib.hid zz0
 have HP0:=Lib.hid p0
 have HQ0:=Lib.hid q0
 have HZZ:=Lib.hid hz
 have HFO:=Lib.hid hf
 have HOW:=Lib.hid ho
 clear hv hN hr hJ hug huc ho hb0 zz0 p0 q0 hs0 hz hf
 go_enter Tryz.func147,Tryz.ntmps147
 go_upto_region 1 with fail
 generalize ((w.alloc (.cells #[.int .i64 s.kind,.slice L s.labels.length lc,.slice A s.args.length ac] 27)).alloc (.cells #[.int .i64 13,.string nm,.int .i64 n0,.slice B 2 bc] 30)).alloc (.cells #[.int .i64 0,.slice none 0 0,.slice none 0 0,.int .i64 0] 83)=w0 at *
 obtain ⟨sp0,sp1,sp2⟩:=HP0.out.c3
 obtain ⟨qo0,qo1,qo2,qo3⟩:=HQ0.out.c4
 have hzp:=szOt_eq (.mk 13 n0 nm [o1,o2])
 have hzq:=HZZ.out
 have z1:szOt o1≤1048576:=by
  have:=szOt_part [o1,o2] 0 (by simp)
  simp only [Ot.args] at hzp
  simp only [List.getElem_cons_zero] at this
  omega
 have z2:szOt o2≤1048576:=by
  have:=szOt_part [o1,o2] 1 (by simp)
  simp only [Ot.args] at hzp
  simp only [List.getElem_cons_succ,List.getElem_cons_zero] at this
  omega
 have hoa:=oargs_at (ts:=[o1,o2]) HO0.out
 obtain ⟨b,off,B1,bc1,rfl,hbl,x0,x2,x1,x3,hx1⟩:=hoa.elem 0 (by simp)
 have y00:w0.cell? ⟨b,off,none⟩=some (.int .i64 o1.kind):=by have h:=x0;simp only [Nat.zero_mul,Nat.add_zero] at h;exact h
 have y01:w0.cell? ⟨b,off+1,none⟩=some (.string o1.name):=by have h:=x1;simp only [Nat.zero_mul,Nat.add_zero] at h;exact h
 have y02:w0.cell? ⟨b,off+2,none⟩=some (.int .i64 o1.num):=by have h:=x2;simp only [Nat.zero_mul,Nat.add_zero] at h;exact h
 have y03:w0.cell? ⟨b,off+3,none⟩=some (.slice B1 o1.args.length bc1):=by have h:=x3;simp only [Nat.zero_mul,Nat.add_zero] at h;exact h
 have HX1:Hid (OtAt w0 w0.heap.size (.agg #[.int .i64 o1.kind,.string o1.name,.int .i64 o1.num,.slice B1 o1.args.length bc1]) o1):=Lib.hid hx1
 obtain ⟨b',off',B2,bc2,hbb,_,x0',x2',x1',x3',hx2⟩:=hoa.elem 1 (by simp)
 simp only [Option.some.injEq,Addr.mk.injEq,and_true] at hbb
 obtain ⟨rfl,rfl⟩:=hbb
 have y10:w0.cell? ⟨b,off+4,none⟩=some (.int .i64 o2.kind):=by have h:=x0';simp only [Nat.one_mul] at h;exact h
 have y11:w0.cell? ⟨b,off+4+1,none⟩=some (.string o2.name):=by have h:=x1';simp only [Nat.one_mul] at h;exact h
 have y12:w0.cell? ⟨b,off+4+2,none⟩=some (.int .i64 o2.num):=by have h:=x2';simp only [Nat.one_mul] at h;exact h
 have y13:w0.cell? ⟨b,off+4+3,none⟩=some (.slice B2 o2.args.length bc2):=by have h:=x3';simp only [Nat.one_mul] at h;exact h
 have HX2:Hid (OtAt w0 w0.heap.size (.agg #[.int .i64 o2.kind,.string o2.name,.int .i64 o2.num,.slice B2 o2.args.length bc2]) o2):=Lib.hid hx2
 have hpl:=HP0.out.lt
 have hql:=HQ0.out.lt
 have hnp:w.heap.size+1+1≠w.heap.size:=by omega
 have hnq:w.heap.size+1+1≠w.heap.size+1:=by omega
 have hbw:b<w.heap.size:=by
  obtain ⟨b9,o9,_,_,h9,h9',_⟩:=(oargs_at (ts:=[o1,o2]) HOW.out).elem 0 (by simp)
  simp only [Option.some.injEq,Addr.mk.injEq] at h9
  omega
 have hne:w.heap.size+1+1≠b:=by omega
 have HC:Hid (Calls Tryz.prog 182 #[.agg #[.int .i64 s.kind,.slice L s.labels.length lc,.slice A s.args.length ac],.agg #[.int .i64 o1.kind,.string o1.name,.int .i64 o1.num,.slice B1 o1.args.length bc1],.agg #[.int .i64 o2.kind,.string o2.name,.int .i64 o2.num,.slice B2 o2.args.length bc2]] w0.drew (TypPost (fun b=>N b∨b=w.heap.size+1+1) (.iface 246 (.pointer (some ua))) r w0.drew)):=Lib.hid (typElse_any o1 o2 h1 h2 (N:=fun b=>N b∨b=w.heap.size+1+1) (u:=(.iface 246 (.pointer (some ua)))) (r:=r) s _ _ _ _ HN0.out (HU0.out.below (Below.refl _ _).drew) (HJ0.out.below (Below.refl _ _).drew) (HV0.out.drew) (HX1.out.up (Below.refl _ _).drew) (HX2.out.up (Below.refl _ _).drew) hval f1 f2 z1 z2 HR.out)
 clear hval hse hnm hzp hzq z1 hoa hx1 x0 x1 x2 x3 h1 f1 z2 hx2 x0' x1' x2' x3' h2 f2
 go_upto_region 28 with fail
 have KS:=Lib.hid (fun (x:World) (hx:∀ q,q<w0.heap.size→w.heap.size+1+1≠q→x.heap[q]?=w0.heap[q]?)=>(show x.cell? ⟨w.heap.size,0,none⟩=some (.int .i64 s.kind)∧x.cell? ⟨w.heap.size,1,none⟩=some (.slice L s.labels.length lc)∧x.cell? ⟨w.heap.size,2,none⟩=some (.slice A s.args.length ac)∧x.cell? ⟨w.heap.size+1,3,none⟩=some (.slice (some ⟨b,off,none⟩) 2 bc)∧x.cell? ⟨b,off,none⟩=some (.int .i64 o1.kind)∧x.cell? ⟨b,off+1,none⟩=some (.string o1.name)∧x.cell? ⟨b,off+2,none⟩=some (.int .i64 o1.num)∧x.cell? ⟨b,off+3,none⟩=some (.slice B1 o1.args.length bc1)∧x.cell? ⟨b,off+4,none⟩=some (.int .i64 o2.kind)∧x.cell? ⟨b,off+4+1,none⟩=some (.string o2.name)∧x.cell? ⟨b,off+4+2,none⟩=some (.int .i64 o2.num)∧x.cell? ⟨b,off+4+3,none⟩=some (.slice B2 o2.args.length bc2) from ⟨kH (HP0.out.cell 0) (hx _ hpl hnp),kH (HP0.out.cell 1) (hx _ hpl hnp),kH (HP0.out.cell 2) (hx _ hpl hnp),kH (HQ0.out.cell 3) (hx _ hql hnq),kH y00 (hx _ hbl hne),kH y01 (hx _ hbl hne),kH y02 (hx _ hbl hne),kH y03 (hx _ hbl hne),kH y10 (hx _ hbl hne),kH y11 (hx _ hbl hne),kH y12 (hx _ hbl hne),kH y13 (hx _ hbl hne)⟩))
 have hD:=(Below.refl w0.heap.size w0).drew
 go_region_held3 (fun x:World=>x.cell? ⟨w.heap.size,0,none⟩=some (.int .i64 s.kind)∧x.cell? ⟨w.heap.size,1,none⟩=some (.slice L s.labels.length lc)∧x.cell? ⟨w.heap.size,2,none⟩=some (.slice A s.args.length ac)∧x.cell? ⟨w.heap.size+1,3,none⟩=some (.slice (some ⟨b,off,none⟩) 2 bc)∧x.cell? ⟨b,off,none⟩=some (.int .i64 o1.kind)∧x.cell? ⟨b,off+1,none⟩=some (.string o1.name)∧x.cell? ⟨b,off+2,none⟩=some (.int .i64 o1.num)∧x.cell? ⟨b,off+3,none⟩=some (.slice B1 o1.args.length bc1)∧x.cell? ⟨b,off+4,none⟩=some (.int .i64 o2.kind)∧x.cell? ⟨b,off+4+1,none⟩=some (.string o2.name)∧x.cell? ⟨b,off+4+2,none⟩=some (.int .i64 o2.num)∧x.cell? ⟨b,off+4+3,none⟩=some (.slice B2 o2.args.length bc2)) (first | with_reducible exact KS.out _ (fun q hq _=>hD.block q hq) | with_reducible exact KS.out _ (fun q hq _=>hb9.block q hq) | with_reducible exact KS.out _ (fun q hq hne=>(set4_heap _ _ q (Ne.symm hne) _ _ _ _).trans (hb9.block q hq))) (first | (go_simp;go_at_call 182;(with_reducible refine (HC.out).mono ?_);rintro e w9 ⟨L9,lc9,A9,ac9,t9,k9,x9,rfl,hv9,hb9',hs9,hor9⟩;have hb9:=hD.trans hb9';have z9:=HZ0.out.below hb9 HZ0.out.lt;obtain ⟨d0,d1,d2,d3⟩:=z9.c4;obtain ⟨df0,df1,df2,df3⟩:=z9.f4;have HF:=Lib.hid (fun a b c d=>typ_fin (r:=r) (show w.heap.size≤w.heap.size+1+1 by omega) (HB0.out.trans (hb9.mono HB0.out.size)) hv9 hs9 hor9 a b c d);clear hv9 hs9 hor9;clear hb9' z9))
 all_goals go_wp2
 all_goals exact bodyPost_ret (v:=.tuple #[.agg #[.int .i64 t9.kind,.slice L9 t9.labels.length lc9,.slice A9 t9.args.length ac9,.int .i64 k9],x9]) (by simp [results,Tryz.results147,go_sem,d0,d1,d2,d3]) rfl (HF.out _ _ _ _)
set_option maxHeartbeats 4000000 in
theorem typKind_none (k0:Int) (i1:(k0 == 1)=false) (i2:(k0 == 2)=false) (i3:(k0 == 3)=false) (i4:(k0 == 4)=false) (i5:(k0 == 5)=false) (i6:(k0 == 6)=false) (i7:(k0 == 7)=false) (i8:(k0 == 8)=false) (i9:(k0 == 9)=false) (i10:(k0 == 10)=false) (i11:(k0 == 11)=false) (i12:(k0 == 12)=false) (i13:(k0 == 13)=false) (n0:Int) (nm:ByteArray) (ts:List Ot) (B:Option Addr) (bc:Nat) {N:Nat→Prop} {u:Value} {r:Option (Ty×Int)} (s:Ty) (sv:Value) (w:World) (hN:∀ b,N b→b<w.heap.size) (hU:UnfitAt w u) (hJ:JoinsAt w) (hv:OwnA N w sv s) (ho:OtAt w w.heap.size (.agg #[.int .i64 k0,.string nm,.int .i64 n0,.slice B ts.length bc]) (.mk k0 n0 nm ts)) (hval:validB s=true) (hf:formOt (.mk k0 n0 nm ts)=true) (hz:szOt (.mk k0 n0 nm ts)≤1048576) (hr:r=none):
  Calls Tryz.prog 147 #[sv,.agg #[.int .i64 k0,.string nm,.int .i64 n0,.slice B ts.length bc]] w (TypPost N u r w):=by
 have hnm:=form_name hf
 have hse:=szTy_valid hval
 obtain ⟨L,lc,A,ac,rfl⟩:=hv.open
 obtain ⟨hb0,p0,q0,zz0,hs0⟩:=boxes3 w 27 30 83 #[.int .i64 s.kind,.slice L s.labels.length lc,.slice A s.args.length ac] #[.int .i64 k0,.string nm,.int .i64 n0,.slice B ts.length bc] #[.int .i64 0,.slice none 0 0,.slice none 0 0,.int .i64 0]
 have HV0:=Lib.hid ((hv.late (w.heap.size+1+1) (by omega)).up hb0)
 have HO0:=Lib.hid (ho.up hb0)
 have HN0:=Lib.hid (show ∀ b,(N b∨b=w.heap.size+1+1)→b<(((w.alloc (.cells #[.int .i64 s.kind,.slice L s.labels.length lc,.slice A s.args.length ac] 27)).alloc (.cells #[.int .i64 k0,.string nm,.int .i64 n0,.slice B ts.length bc] 30)).alloc (.cells #[.int .i64 0,.slice none 0 0,.slice none 0 0,.int .i64 0] 83)).heap.size from fun b hb=>hb.elim (fun hb=>Nat.lt_of_lt_of_le (hN b hb) hb0.size) (fun e=>e ▸ zz0.lt))
 have HU0:=Lib.hid (hU.below hb0)
 have HJ0:=Lib.hid (hJ.below hb0)
 obtain ⟨hug,huc,ua,rfl⟩:=hU
 have HR:=Lib.hid hr
 have HB0:=Lib.hid hb0
 have HZ0:=Lib.hid zz0
 have HP0:=Lib.hid p0
 have HQ0:=Lib.hid q0
 have HZZ:=Lib.hid hz
 have HFO:=Lib.hid hf
 have HOW:=Lib.hid ho
 clear hv hN hr hJ hug huc ho hb0 zz0 p0 q0 hs0 hz hf
 go_enter Tryz.func147,Tryz.ntmps147
 go_upto_region 1 with fail
 generalize ((w.alloc (.cells #[.int .i64 s.kind,.slice L s.labels.length lc,.slice A s.args.length ac] 27)).alloc (.cells #[.int .i64 k0,.string nm,.int .i64 n0,.slice B ts.length bc] 30)).alloc (.cells #[.int .i64 0,.slice none 0 0,.slice none 0 0,.int .i64 0] 83)=w0 at *
 obtain ⟨sp0,sp1,sp2⟩:=HP0.out.c3
 obtain ⟨qo0,qo1,qo2,qo3⟩:=HQ0.out.c4
 have HRN:=HR
 clear hval hse hnm sp0 sp1 sp2
 obtain ⟨d0,d1,d2,d3⟩:=HZ0.out.c4
 obtain ⟨df0,df1,df2,df3⟩:=HZ0.out.f4
 have e0:=dC d0
 have ef0:=dF df0
 have e1:=dC d1
 have ef1:=dF df1
 have e2:=dC d2
 have ef2:=dF df2
 have e3:=dC d3
 have ef3:=dF df3
 have hu0:w0.cell? ⟨0,0,none⟩=some (.iface 246 (.pointer (some ua))):=HU0.out.2.1
 have hud:=dC hu0
 have HF:=Lib.hid (typ_none (N:=N) (u:=(.iface 246 (.pointer (some ua)))) HB0.out HRN.out)
 have HG:=Lib.hid (fun a b c d=>typ_drew ((typ_none4 (N:=N) (u:=(.iface 246 (.pointer (some ua)))) (show w.heap.size≤w.heap.size+1+1 by omega) HB0.out HRN.out a b c d)))
 go_wp2
 go_region
 go_wp2
 first | exact bodyPost_ret (v:=.tuple #[.agg #[.int .i64 0,.slice none 0 0,.slice none 0 0,.int .i64 0],.iface 246 (.pointer (some ua))]) (by simp [results,Tryz.results147,go_sem,d0,d1,d2,d3,e0,e1,e2,e3]) rfl HF.out | exact bodyPost_ret (v:=.tuple #[.agg #[.int .i64 0,.slice none 0 0,.slice none 0 0,.int .i64 0],.iface 246 (.pointer (some ua))]) (by simp [results,Tryz.results147,go_sem,d0,d1,d2,d3,e0,e1,e2,e3]) rfl (HG.out _ _ _ _)
end Go.Proofs.YtfnblkcmcfofoaaGreatDoor
