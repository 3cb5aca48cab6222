/- Lemmas: Typ, TypIs. -/
import Derived.Test.YtfnblkcmcfofoaaGreatDoorLawFoci_39
import Derived.Test.YtfnblkcmcfofoaaGreatDoorLawFoci_40
import Derived.Test.YtfnblkcmcfofoaaGreatDoorLawFoci_32
import Derived.Test.YtfnblkcmcfofoaaGreatDoorLawFoci_30
import Derived.LaidEql
import Derived.Stop.Asserts
import Derived.RowKitTokens

namespace Go.Proofs.YtfnblkcmcfofoaaGreatDoor
section
set_option maxRecDepth 100000
set_option linter.unusedSimpArgs false
open Go.RowKit
attribute [local go_sem ↓] Go.wp_at_zero Go.wp_at_succ
theorem nodeTyO_leaf {k:Int} {nm:ByteArray} {fs:List (Ty→Option (Ty×Int))} {s:Ty} (h1:k≠11) (h2:k≠12) (h3:k≠13):nodeTyO k nm fs s=leafO k nm s:=by
 simp only [nodeTyO,if_neg h1,if_neg h2,if_neg h3]
theorem typKind_any (k0 n0:Int) (nm:ByteArray) (ts:List Ot) (hall:∀ i,(h:i<ts.length)→TypOne ts[i]) {N:Nat→Prop} {u:Value} {r:Option (Ty×Int)} (s:Ty) (sv ov:Value) (w:World) (hN:∀ b,N b→b<w.heap.size) (hU:UnfitAt w u) (hJ:JoinsAt w) (hv:OwnA N w sv s) (ho:OtAt w w.heap.size ov (.mk k0 n0 nm ts)) (hval:validB s=true) (hf:formOt (.mk k0 n0 nm ts)=true) (hz:szOt (.mk k0 n0 nm ts)≤1048576) (hr:r=nodeTyO k0 nm (typeOs ts) s):
  Calls Tryz.prog 147 #[sv,ov] w (TypPost N u r w):=by
 obtain ⟨B,bc,rfl,_⟩:=ho.open
 simp only [Ot.kind,Ot.num,Ot.name,Ot.args] at ho ⊢
 by_cases hk:k0=1∨k0=2∨k0=3∨k0=4∨k0=5∨k0=6∨k0=7∨k0=8∨k0=9∨k0=10
 ·exact typKind_leaf k0 hk n0 nm ts B bc s sv w hN hU hJ hv ho hval hf hz (hr.trans (nodeTyO_leaf (by omega) (by omega) (by omega)))
 obtain ⟨e1,e2,e3,e4,e5,e6,e7,e8,e9,e10⟩:k0≠1∧k0≠2∧k0≠3∧k0≠4∧k0≠5∧k0≠6∧k0≠7∧k0≠8∧k0≠9∧k0≠10:=by omega
 by_cases e11:k0=11
 ·subst e11
  obtain ⟨a,rfl,fa⟩:=form_one hf rfl
  exact typKind_map a (hall 0 (by simp)) fa n0 nm B bc s sv w hN hU hJ hv ho hval hf hz (hr.trans (by simp [nodeTyO,typeOs]))
 by_cases e12:k0=12
 ·subst e12
  obtain ⟨a,b,rfl,fa,fb⟩:=form_two hf (.inl rfl)
  exact typKind_then a b (hall 0 (by simp)) (hall 1 (by simp)) fa fb n0 nm B bc s sv w hN hU hJ hv ho hval hf hz (hr.trans (by simp [nodeTyO,typeOs]))
 by_cases e13:k0=13
 ·subst e13
  obtain ⟨a,b,rfl,fa,fb⟩:=form_two hf (.inr rfl)
  exact typKind_else a b (hall 0 (by simp)) (hall 1 (by simp)) fa fb n0 nm B bc s sv w hN hU hJ hv ho hval hf hz (hr.trans (by simp [nodeTyO,typeOs]))
 exact typKind_none k0 (by simpa using e1) (by simpa using e2) (by simpa using e3) (by simpa using e4) (by simpa using e5) (by simpa using e6) (by simpa using e7) (by simpa using e8) (by simpa using e9) (by simpa using e10) (by simpa using e11) (by simpa using e12) (by simpa using e13) n0 nm ts B bc s sv w hN hU hJ hv ho hval hf hz (hr.trans ((nodeTyO_leaf e11 e12 e13).trans (by simp only [leafO,if_neg e1,if_neg e2,if_neg e3,if_neg e4,if_neg e5,if_neg e6,if_neg e7,if_neg e8,if_neg e9,if_neg e10])))
set_option maxHeartbeats 4000000 in
theorem typOne_of (k0 n0:Int) (nm:ByteArray) (ts:List Ot) (hall:∀ i,(h:i<ts.length)→TypOne ts[i]):TypOne (.mk k0 n0 nm ts):=by
 intro N u r s sv ov w hN hU hJ hv ho hval hf hz hr
 have hr':r=goodO (nodeTyO k0 nm (typeOs ts) s):=by rw [hr,typeO]
 obtain ⟨o,ho_⟩:∃ o,o=Ot.mk k0 n0 nm ts:=⟨_,rfl⟩
 have hKK:=fun (W:World) (N':Nat→Prop) (r':Option (Ty×Int)) (sv' ov':Value) (h1:∀ b,N' b→b<W.heap.size) (h2:UnfitAt W u) (h3:JoinsAt W) (h4:OwnA N' W sv' s) (h5:OtAt W W.heap.size ov' o) (h6:r'=nodeTyO k0 nm (typeOs ts) s)=>typKind_any k0 n0 nm ts hall (N:=N') (u:=u) (r:=r') s sv' ov' W h1 h2 h3 h4 (ho_ ▸ h5) hval hf hz h6
 rw [← ho_] at ho
 obtain ⟨L,lc,A,ac,rfl⟩:=hv.open
 obtain ⟨B,bc,rfl,_⟩:=ho.open
 obtain ⟨hb0,p0,q0,zz0,hs0⟩:=boxes3 w 27 30 83 #[.int .i64 s.kind,.slice L s.labels.length lc,.slice A s.args.length ac] #[.int .i64 o.kind,.string o.name,.int .i64 o.num,.slice B o.args.length bc] #[.int .i64 0,.slice none 0 0,.slice none 0 0,.int .i64 0]
 have hv0:=(hv.late (w.heap.size+1+1) (by omega)).up hb0
 have HU0:=Lib.hid (hU.below hb0)
 have hN0:∀ b,(N b∨b=w.heap.size+1+1)→b<(((w.alloc (.cells #[.int .i64 s.kind,.slice L s.labels.length lc,.slice A s.args.length ac] 27)).alloc (.cells #[.int .i64 o.kind,.string o.name,.int .i64 o.num,.slice B o.args.length bc] 30)).alloc (.cells #[.int .i64 0,.slice none 0 0,.slice none 0 0,.int .i64 0] 83)).heap.size:=fun b hb=>hb.elim (fun hb=>Nat.lt_of_lt_of_le (hN b hb) hb0.size) (fun e=>e ▸ zz0.lt)
 obtain ⟨r1,hr1⟩:∃ x,x=nodeTyO k0 nm (typeOs ts) s:=⟨_,rfl⟩
 have HC:=Lib.hid (hKK _ (fun b=>N b∨b=w.heap.size+1+1) r1 _ _ hN0 HU0.out (hJ.below hb0) hv0 (ho.up hb0) hr1)
 have HR:=Lib.hid (hr'.trans (congrArg goodO hr1.symm))
 have HB0:=Lib.hid hb0
 have HZ0:=Lib.hid zz0
 clear hr hr' hr1 ho_ hKK hv hv0 ho hN hJ hb0 zz0 p0 q0 hs0 hN0 hf hz hval hall
 obtain ⟨hug,huc,ua,rfl⟩:=hU
 clear hug huc
 go_enter Tryz.func100,Tryz.ntmps100
 go_wp2_with fail
 generalize ((w.alloc (.cells #[.int .i64 s.kind,.slice L s.labels.length lc,.slice A s.args.length ac] 27)).alloc (.cells #[.int .i64 o.kind,.string o.name,.int .i64 o.num,.slice B o.args.length bc] 30)).alloc (.cells #[.int .i64 0,.slice none 0 0,.slice none 0 0,.int .i64 0] 83)=w0 at *
 refine HC.out.mono ?_
 rintro e w1 ⟨L1,lc1,A1,ac1,t1,k1,x1,rfl,hv1,hb1,hs1,hor1⟩
 have hx1:=(Below.refl w1.heap.size w1).alloc (Nat.le_refl _) (.cells #[.int .i64 t1.kind,.slice L1 t1.labels.length lc1,.slice A1 t1.args.length ac1,.int .i64 k1] 83)
 have hd1:=hb1.trans (hx1.mono hb1.size)
 have HN1:=Lib.hid (show Whole1 (w1.alloc (.cells #[.int .i64 t1.kind,.slice L1 t1.labels.length lc1,.slice A1 t1.args.length ac1,.int .i64 k1] 83)) w1.heap.size 83 #[.int .i64 t1.kind,.slice L1 t1.labels.length lc1,.slice A1 t1.args.length ac1,.int .i64 k1] from Whole1.new _ _ _)
 have HV1:=Lib.hid (hv1.up hx1)
 have HZ1:=Lib.hid (HZ0.out.below hd1 HZ0.out.lt)
 have HB1:=Lib.hid (HB0.out.trans (hd1.mono HB0.out.size))
 have HU1:=Lib.hid (HU0.out.below hd1)
 have HS1:=Lib.hid hs1
 clear hx1 hd1 hv1 hb1 hs1 HC
 go_upto_region 2 with fail
 generalize (w1.alloc (.cells #[.int .i64 t1.kind,.slice L1 t1.labels.length lc1,.slice A1 t1.args.length ac1,.int .i64 k1] 83))=W1 at *
 rcases hor1 with ⟨rn,rfl⟩ | ⟨rs,rfl⟩
 ·have HRN:=Lib.hid (HR.out.trans (by rw [rn,goodO]))
  obtain ⟨d0,d1,d2,d3⟩:=HZ1.out.c4
  obtain ⟨df0,df1,df2,df3⟩:=HZ1.out.f4
  have e0:=dC d0
  have ef0:=dF df0
  have e1:=dC d1
  have ef1:=dF df1
  have e2:=dC d2
  have ef2:=dF df2
  have e3:=dC d3
  have ef3:=dF df3
  have hu0:W1.cell? ⟨0,0,none⟩=some (.iface 246 (.pointer (some ua))):=HU1.out.2.1
  have hud:=dC hu0
  have HF:=Lib.hid (typ_none (N:=N) (u:=(.iface 246 (.pointer (some ua)))) HB1.out HRN.out)
  have HG:=Lib.hid (fun a b c d=>typ_drew ((typ_none4 (N:=N) (u:=(.iface 246 (.pointer (some ua)))) (show w.heap.size≤w.heap.size+1+1 by omega) HB1.out HRN.out a b c d)))
  clear rn
  go_wp2
  go_region
  go_wp2
  first | exact bodyPost_ret (v:=.tuple #[.agg #[.int .i64 0,.slice none 0 0,.slice none 0 0,.int .i64 0],.iface 246 (.pointer (some ua))]) (by simp [results,Tryz.results100,go_sem,d0,d1,d2,d3,e0,e1,e2,e3]) rfl HF.out | exact bodyPost_ret (v:=.tuple #[.agg #[.int .i64 0,.slice none 0 0,.slice none 0 0,.int .i64 0],.iface 246 (.pointer (some ua))]) (by simp [results,Tryz.results100,go_sem,d0,d1,d2,d3,e0,e1,e2,e3]) rfl (HG.out _ _ _ _)
 ·have HRS:=Lib.hid rs
  have HVA:=Lib.hid (implValid_any t1 _ W1 HV1.out.own (by have:=HS1.out;omega))
  obtain ⟨m0,m1,m2,m3⟩:=HN1.out.c4
  cases hvb:validB t1
  ·rw [hvb] at HVA
   have HRN:=Lib.hid (HR.out.trans (show goodO r1=none by rw [HRS.out];simp [goodO,hvb]))
   clear hvb
   go_wp2_with fail
   refine HVA.out.mono ?_
   rintro e w2 ⟨rfl,hb2⟩
   have HU2:=Lib.hid (HU1.out.below hb2)
   have HB2:=Lib.hid (HB1.out.trans (hb2.mono HB1.out.size))
   have HZ2:=Lib.hid (HZ1.out.below hb2 HZ1.out.lt)
   clear hb2 m0 m1 m2 m3 rs
   obtain ⟨d0,d1,d2,d3⟩:=HZ2.out.c4
   obtain ⟨df0,df1,df2,df3⟩:=HZ2.out.f4
   have e0:=dC d0
   have ef0:=dF df0
   have e1:=dC d1
   have ef1:=dF df1
   have e2:=dC d2
   have ef2:=dF df2
   have e3:=dC d3
   have ef3:=dF df3
   have hu0:w2.cell? ⟨0,0,none⟩=some (.iface 246 (.pointer (some ua))):=HU2.out.2.1
   have hud:=dC hu0
   have HF:=Lib.hid (typ_none (N:=N) (u:=(.iface 246 (.pointer (some ua)))) HB2.out HRN.out)
   have HG:=Lib.hid (fun a b c d=>typ_drew ((typ_none4 (N:=N) (u:=(.iface 246 (.pointer (some ua)))) (show w.heap.size≤w.heap.size+1+1 by omega) HB2.out HRN.out a b c d)))
   go_wp2
   go_region
   go_wp2
   first | exact bodyPost_ret (v:=.tuple #[.agg #[.int .i64 0,.slice none 0 0,.slice none 0 0,.int .i64 0],.iface 246 (.pointer (some ua))]) (by simp [results,Tryz.results100,go_sem,d0,d1,d2,d3,e0,e1,e2,e3]) rfl HF.out | exact bodyPost_ret (v:=.tuple #[.agg #[.int .i64 0,.slice none 0 0,.slice none 0 0,.int .i64 0],.iface 246 (.pointer (some ua))]) (by simp [results,Tryz.results100,go_sem,d0,d1,d2,d3,e0,e1,e2,e3]) rfl (HG.out _ _ _ _)
  ·rw [hvb] at HVA
   have HRY:=Lib.hid (HR.out.trans (show goodO r1=some (t1,k1) by rw [HRS.out];simp [goodO,hvb]))
   clear hvb
   go_wp2_with fail
   refine HVA.out.mono ?_
   rintro e w2 ⟨rfl,hb2⟩
   have HB2:=Lib.hid (HB1.out.trans (hb2.mono HB1.out.size))
   have z2:=HZ1.out.below hb2 HZ1.out.lt
   have n2:=HN1.out.below hb2 HN1.out.lt
   have HF:=Lib.hid (fun a b c d=>typ_fin (r:=r) (u:=(.iface 246 (.pointer (some ua)))) (show w.heap.size≤w.heap.size+1+1 by omega) HB2.out (HV1.out.up hb2) HS1.out (.inr ⟨HRY.out,rfl⟩) a b c d)
   clear m0 m1 m2 m3
   obtain ⟨d0,d1,d2,d3⟩:=z2.c4
   obtain ⟨df0,df1,df2,df3⟩:=z2.f4
   obtain ⟨m0,m1,m2,m3⟩:=n2.c4
   clear hb2 z2 n2 rs
   go_wp2
   exact bodyPost_ret (v:=.tuple #[.agg #[.int .i64 t1.kind,.slice L1 t1.labels.length lc1,.slice A1 t1.args.length ac1,.int .i64 k1],.nilIface]) (by simp [results,Tryz.results100,go_sem,d0,d1,d2,d3]) rfl (HF.out _ _ _ _)
theorem typOne_any (o:Ot):TypOne o:=by
 induction o using Ot.ind with
 | h k n nm ts ih=>exact typOne_of k n nm ts ih
end
section
open Go.RowKit Go.Extern.Stop Go.Stop Go.Extern
theorem errIs_nil (a:Addr) (w:World):
  Calls Tryz.prog 54 #[.nilIface,.iface 246 (.pointer (some a))] w fun e w'=>e=.returned (.bool false)∧w'=w:=by
 have hn:=run_eql_iface_nil_left (P:=Tryz.prog) w 246 (.pointer (some a)) Tryz.underlying85
 go_enter Tryz.func54,Tryz.ntmps54
 go_wp2
 go_ret
 exact ⟨rfl,rfl⟩
theorem errTypeOf (v:Value) (w:World):(Extern.ReflectliteType.typeOf #[.iface 246 v]).run Tryz.prog w=.ok (.iface 155 (.agg #[.pointer (some ⟨3,246,none⟩)])) w:=by kernel_rfl
theorem errComparable (w:World):((Extern.ReflectliteType.method fun t=>do Go.Extern.Rtype.noPackHeld "Comparable" t;(fun a=>Value.bool a.comparable) <$> typeInfo t) #[.agg #[.pointer (some ⟨3,246,none⟩)]]).run Tryz.prog w=.ok (.bool true) w:=by kernel_rfl
theorem errMethodComparable (v:Value) (w:World):(Go.method 383 155 v "Comparable").run Tryz.prog w=.ok (233,v) w:=by kernel_rfl
theorem errComp:(Tryz.prog.info? 246).map (·.comparable)=some true:=by kernel_rfl
theorem errSize:(Tryz.prog.info? 271).map (·.size)=some 1:=by kernel_rfl
theorem errIs_same (a:Addr) (w:World):
  Calls Tryz.prog 54 #[.iface 246 (.pointer (some a)),.iface 246 (.pointer (some a))] w fun e w'=>e=.returned (.bool true)∧w'=w:=by
 obtain ⟨i,hi,hcmp⟩:=Option.map_eq_some_iff.1 errComp
 obtain ⟨j,hj,hjs⟩:=Option.map_eq_some_iff.1 errSize
 have h8:=@run_callFunc_extern Tryz.prog 101 _ Extern.ReflectliteType.typeOf Tryz.func101 (by kernel_rfl) (by kernel_rfl) (by kernel_rfl) (by kernel_rfl)
 have h32:=@run_callFunc_extern Tryz.prog 233 _ (Extern.ReflectliteType.method fun t=>do Go.Extern.Rtype.noPackHeld "Comparable" t;pure (.bool (← typeInfo t).comparable)) Tryz.func233 (by kernel_rfl) (by kernel_rfl) (by kernel_rfl) (by kernel_rfl)
 have tT:=errTypeOf
 have cT:=errComparable
 have mR:=errMethodComparable
 have heq:=run_eql_iface_ptr_same (P:=Tryz.prog) w a Tryz.underlying85 Tryz.underlying246 hi hcmp hj
 go_enter Tryz.func54,Tryz.ntmps54
 go_wp2
 refine wp_loop_rounds 1 ?_
 rw [rounds_succ]
 go_wp2
 go_ret
 exact ⟨rfl,rfl⟩
end
end Go.Proofs.YtfnblkcmcfofoaaGreatDoor
