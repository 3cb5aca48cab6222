/- Lemmas: SpecFociD, SpecFoci. -/
import Derived.Test.YtfnblkcmcfofoaaGreatDoorLawFoci_51
import Derived.Deep.RegionHeld3
import Derived.Test.YtfnblkcmcfofoaaGreatDoorLawFoci_37
import Derived.Test.YtfnblkcmcfofoaaGreatDoorLawFoci_12
import Derived.Test.YtfnblkcmcfofoaaGreatDoorLawFoci_30

namespace Go.Proofs.YtfnblkcmcfofoaaGreatDoor
section
set_option maxRecDepth 100000
set_option linter.unusedSimpArgs false
open Go.RowKit
attribute [local go_sem ↓] Go.wp_at_zero Go.wp_at_succ
theorem one_new {w w0 w1:World} {a b c d e:Value} {u:Va} (hB:Below w.heap.size w w0) (h2:Below w0.heap.size w0 w1) (h:VaR w1 (fun q=>w0.heap.size≤q) (.agg #[a,b,c,d,e]) u):
  NewL [u] w (.returned (.slice (some ⟨w1.heap.size,0,none⟩) 1 1)) (w1.alloc (.cells #[a,b,c,d,e] 41)):=
 ⟨_,_,rfl,(VasR.one h).wide fun q hq _=>.inr (by
  have e1:=hB.size
  have e2:=h2.size
  rcases hq with hq | hq<;>omega),(hB.trans (h2.mono hB.size)).alloc (by have e1:=hB.size;have e2:=h2.size;omega) _⟩
theorem list_up {w w0 w1:World} {us:List Va} {e:Ending} (hB:Below w.heap.size w w0) (h:NewL us w0 e w1):NewL us w e w1:=by
 obtain ⟨A,c,rfl,h1,h2⟩:=h
 exact ⟨A,c,rfl,h1.wide fun q hq _=>.inr (hq.elim False.elim fun h=>Nat.le_trans hB.size h),hB.trans (h2.mono hB.size)⟩
theorem none_new {w w0:World} (hB:Below w.heap.size w w0):NewL [] w (.returned (.slice (some ⟨w0.heap.size,0,none⟩) 0 0)) (w0.alloc (.cells #[] 41)):=
 ⟨_,_,rfl,vasR_empty,hB.alloc hB.size _⟩
theorem names_ne2 {a b:ByteArray} (h:a≠b):(a.toList == b.toList)=false:=by
 rw [beq_eq_false_iff_ne,ByteArray.toList_eq,ByteArray.toList_eq]
 intro e
 exact h (ByteArray.ext (Array.toList_inj.1 e))
def atW (l:List Va) (n:Int):List Va:=if n<l.length then (match l[n.toNat]? with | some x=>[x] | none=>[]) else []
set_option maxHeartbeats 16000000 in
theorem specFoci_leaf (k n:Int) (nm:ByteArray) (ts:List Ot) (s t:Ty) (kd:Int) (v:Va) (B:Option Addr) (bc:Nat) (vv:Value) (w:World) (hk:k≠11∧k≠12∧k≠13) (hf:Fit (.mk k n nm ts) s t kd v) (ho:OtAt w w.heap.size (.agg #[.int .i64 k,.string nm,.int .i64 n,.slice B ts.length bc]) (.mk k n nm ts)) (hv:VaAt w w.heap.size vv v):
  Calls Tryz.prog 71 #[.agg #[.int .i64 k,.string nm,.int .i64 n,.slice B ts.length bc],vv] w (NewL (fociO (.mk k n nm ts) v) w):=by
 obtain ⟨L,lc,A,ac,rfl,hnm,hln,hlz,hl,ha⟩:=hv.open
 obtain ⟨hb0,p0,r0,hs0⟩:=boxes2 w 30 41 #[.int .i64 k,.string nm,.int .i64 n,.slice B ts.length bc] #[.int .i64 v.kind,.int .i64 v.num,.string v.name,.slice L v.labels.length lc,.slice A v.args.length ac]
 have hv0:=hv.up hb0
 have ha0:=ha.up hb0
 have ho0:=ho.up hb0
 have HB0:=Lib.hid hb0
 have hszv:=hf.szv
 have hsze:=szVa_eq v
 have hszl:=szVas_len v.args
 go_enter Tryz.func71,Tryz.ntmps71
 go_upto_region 1 with fail
 generalize (w.alloc (.cells #[.int .i64 k,.string nm,.int .i64 n,.slice B ts.length bc] 30)).alloc (.cells #[.int .i64 v.kind,.int .i64 v.num,.string v.name,.slice L v.labels.length lc,.slice A v.args.length ac] 41)=w0 at *
 have HZ:=Lib.hid hs0
 have hlo:w.heap.size<w0.heap.size:=p0.lt
 have hlv:w.heap.size+1<w0.heap.size:=r0.lt
 clear hs0
 obtain ⟨po0,po1,po2,po3⟩:=p0.c4
 obtain ⟨pv0,pv1,pv2,pv3,pv4⟩:=r0.c5
 by_cases e1:k=1
 ·subst e1
  have hus:fociO (.mk 1 n nm ts) v=[v]:=by rw [fociO_eq];simp [nodeF]
  rw [hus]
  have HC:=Lib.hid (specOne_id n nm ts s t kd v B bc _ _ hf hv0)
  clear hf ho hv ha ha0 hv0 ho0 hb0 hl hlz hus
  clear p0 r0
  go_wp2_with fail
  refine HC.out.mono ?_
  rintro e w1 ⟨x,rfl,h1,h2⟩
  obtain ⟨T0,u0,T9,u9,rfl,_⟩:=h1.open
  have HX:=Lib.hid h1
  have HB1:=Lib.hid h2
  clear h1 h2
  go_wp2
  go_ret
  exact one_new HB0.out HB1.out HX.out
 by_cases e7:k=7
 ·subst e7
  have hus:fociO (.mk 7 n nm ts) v=[intVa (IntKind.i64.wrap (v.num+n))]:=by rw [fociO_eq];simp [nodeF]
  have HC:=Lib.hid (specOne_add n nm ts s t kd v B bc _ _ hf hv0)
  generalize intVa (IntKind.i64.wrap (v.num+n))=uu at *
  have HU:=Lib.hid hus
  clear hf ho hv ha ha0 hv0 ho0 hb0 hl hlz hus
  clear p0 r0
  go_wp2_with fail
  refine HC.out.mono ?_
  rintro e w1 ⟨x,rfl,h1,h2⟩
  obtain ⟨T0,u0,T9,u9,rfl,_⟩:=h1.open
  have HX:=Lib.hid h1
  have HB1:=Lib.hid h2
  clear h1 h2
  go_wp2
  go_ret
  rw [HU.out]
  exact one_new HB0.out HB1.out HX.out
 by_cases e8:k=8
 ·subst e8
  have hus:fociO (.mk 8 n nm ts) v=[boolVa (decide (v.num=0))]:=by rw [fociO_eq];simp [nodeF]
  have HC:=Lib.hid (specOne_not n nm ts s t kd v B bc _ _ hf hv0)
  generalize boolVa (decide (v.num=0))=uu at *
  have HU:=Lib.hid hus
  clear hf ho hv ha ha0 hv0 ho0 hb0 hl hlz hus
  clear p0 r0
  go_wp2_with fail
  refine HC.out.mono ?_
  rintro e w1 ⟨x,rfl,h1,h2⟩
  obtain ⟨T0,u0,T9,u9,rfl,_⟩:=h1.open
  have HX:=Lib.hid h1
  have HB1:=Lib.hid h2
  clear h1 h2
  go_wp2
  go_ret
  rw [HU.out]
  exact one_new HB0.out HB1.out HX.out
 by_cases e9:k=9
 ·subst e9
  have hus:fociO (.mk 9 n nm ts) v=[listVa v.args.reverse]:=by rw [fociO_eq];simp [nodeF]
  have HC:=Lib.hid (specOne_rev n nm ts s t kd v B bc _ _ hf hv0)
  generalize listVa v.args.reverse=uu at *
  have HU:=Lib.hid hus
  clear hf ho hv ha ha0 hv0 ho0 hb0 hl hlz hus
  clear p0 r0
  go_wp2_with fail
  refine HC.out.mono ?_
  rintro e w1 ⟨x,rfl,h1,h2⟩
  obtain ⟨T0,u0,T9,u9,rfl,_⟩:=h1.open
  have HX:=Lib.hid h1
  have HB1:=Lib.hid h2
  clear h1 h2
  go_wp2
  go_ret
  rw [HU.out]
  exact one_new HB0.out HB1.out HX.out
 by_cases e10:k=10
 ·subst e10
  have hus:fociO (.mk 10 n nm ts) v=[recVa nm v]:=by rw [fociO_eq];simp [nodeF]
  have HC:=Lib.hid (specOne_wrap n nm ts s t kd v B bc _ _ hf hv0)
  generalize recVa nm v=uu at *
  have HU:=Lib.hid hus
  clear hf ho hv ha ha0 hv0 ho0 hb0 hl hlz hus
  clear p0 r0
  go_wp2_with fail
  refine HC.out.mono ?_
  rintro e w1 ⟨x,rfl,h1,h2⟩
  obtain ⟨T0,u0,T9,u9,rfl,_⟩:=h1.open
  have HX:=Lib.hid h1
  have HB1:=Lib.hid h2
  clear h1 h2
  go_wp2
  go_ret
  rw [HU.out]
  exact one_new HB0.out HB1.out HX.out
 by_cases e2:k=2
 ·subst e2
  obtain ⟨i,hi,hidx,hus⟩:=hf.field
  obtain ⟨b,off,M,mc,C,cc,rfl,hbl,e0,e1,e2,e3,e4,ht⟩:=ha0.elem i hi
  have hpt:=szVa_part v.args i hi
  have HT:=Lib.hid (fun W (h:VaAt W W.heap.size (.agg #[.int .i64 v.args[i].kind,.int .i64 v.args[i].num,.string v.args[i].name,.slice M v.args[i].labels.length mc,.slice C v.args[i].args.length cc]) v.args[i])=>specCopyV_any v.args[i] _ W h (by omega))
  have HE:=Lib.hid ht
  have HI:=Lib.hid (fun W (h:StrsAt W W.heap.size L v.labels)=>specIndexOf_any L lc W.heap.size v.labels nm W h hln)
  have HL:=Lib.hid (hl.up' hb0)
  have i0:¬ (i:Int)<0:=by omega
  have i1:(i:Int)<(v.args.length:Int):=by omega
  rw [hidx] at HI
  have HU:=Lib.hid hus
  clear hf ho hv ha ha0 hv0 ho0 hb0 hl hlz hus ht hidx
  clear p0 r0
  have KS:=Lib.hid (fun (x:World) (hx:Below w0.heap.size w0 x)=>And.intro (kC hx pv4 hlv) (And.intro (kC hx pv3 hlv) (And.intro (kC hx po1 hlo) (And.intro (kC hx e0 hbl) (And.intro (kC hx e1 hbl) (And.intro (kC hx e2 hbl) (And.intro (kC hx e3 hbl) (kC hx e4 hbl))))))))
  have hD:=(Below.refl w0.heap.size w0).drew
  have t_0:=dC pv4
  have t_1:=dC pv3
  have t_2:=dC po1
  have t_3:=dC e0
  have t_4:=dC e1
  have t_5:=dC e2
  have t_6:=dC e3
  have t_7:=dC e4
  go_upto_region 3 with fail
  go_region_held3 (fun x:World=>x.cell? ⟨w.heap.size+1,4,none⟩=some (.slice (some ⟨b,off,none⟩) v.args.length ac)∧x.cell? ⟨w.heap.size+1,3,none⟩=some (.slice L v.labels.length lc)∧x.cell? ⟨w.heap.size,1,none⟩=some (.string nm)∧x.cell? ⟨b,off+i * 5,none⟩=some (.int .i64 v.args[i].kind)∧x.cell? ⟨b,off+i * 5+1,none⟩=some (.int .i64 v.args[i].num)∧x.cell? ⟨b,off+i * 5+2,none⟩=some (.string v.args[i].name)∧x.cell? ⟨b,off+i * 5+3,none⟩=some (.slice M v.args[i].labels.length mc)∧x.cell? ⟨b,off+i * 5+4,none⟩=some (.slice C v.args[i].args.length cc)) (first | (with_reducible exact KS.out _ hD) | (with_reducible exact KS.out _ hb1) | (with_reducible exact KS.out _ hA1) | go_keep)
   (first | (go_at_call 129;(with_reducible refine (HI.out _ (HL.out.up' hD)).mono ?_);rintro e wx ⟨rfl,hwx⟩;(first | rw [← hwx] | rw [hwx]);clear hwx) | (go_at_call 128;(with_reducible refine (HT.out _ (HE.out.up hD)).mono ?_);rintro e w1 ⟨v1,rfl,h1,h2⟩;have hb1:=hD.trans h2;have HX:=Lib.hid ((VaR.of_in h1).wide (S':=fun q=>w0.heap.size≤q) fun q hq _=>hq.1);obtain ⟨T1,U1,T2,U2,_,rfl,_⟩:=h1.open;have hA1:=hb1.trans (((Below.refl w1.heap.size w1).alloc (Nat.le_refl _) (.cells #[.int .i64 v.args[i].kind,.int .i64 v.args[i].num,.string v.args[i].name,.slice T1 v.args[i].labels.length U1,.slice T2 v.args[i].args.length U2] 41)).mono hb1.size);have HB1:=Lib.hid hb1;clear h1 h2))
  all_goals go_wp2
  all_goals go_ret
  all_goals rw [HU.out]
  all_goals exact one_new HB0.out HB1.out HX.out
 by_cases e3:k=3
 ·subst e3
  have hus:fociO (.mk 3 n nm ts) v=if v.name=nm then v.args else []:=by rw [fociO_eq];simp [nodeF]
  have HC:=Lib.hid (specAll_any v.args A ac _ ha0 (by omega))
  by_cases he:v.name=nm
  ·rw [if_pos he] at hus
   have hc:(v.name.toList == nm.toList)=true:=by simp [he]
   have HU:=Lib.hid hus
   clear hf ho hv ha ha0 hv0 ho0 hb0 hl hlz hus he
   clear p0 r0
   go_wp2_with fail
   refine HC.out.mono ?_
   rintro e w1 ⟨A1,c1,rfl,h1,h2⟩
   have HP:=Lib.hid (list_up HB0.out ⟨A1,c1,rfl,h1,h2⟩)
   clear h1 h2
   go_wp2
   go_ret
   rw [HU.out]
   exact HP.out
  ·rw [if_neg he] at hus
   have hc:(v.name.toList == nm.toList)=false:=names_ne2 he
   have HU:=Lib.hid hus
   clear hf ho hv ha ha0 hv0 ho0 hb0 hl hlz hus he
   clear p0 r0
   go_wp2
   go_ret
   rw [HU.out]
   exact none_new HB0.out
 by_cases e4:k=4
 ·subst e4
  have hus:fociO (.mk 4 n nm ts) v=v.args:=by rw [fociO_eq];simp [nodeF]
  rw [hus]
  have HC:=Lib.hid (specAll_any v.args A ac _ ha0 (by omega))
  clear hf ho hv ha ha0 hv0 ho0 hb0 hl hlz hus
  clear p0 r0
  go_wp2_with fail
  refine HC.out.mono ?_
  rintro e w1 ⟨A1,c1,rfl,h1,h2⟩
  have HP:=Lib.hid (list_up HB0.out ⟨A1,c1,rfl,h1,h2⟩)
  clear h1 h2
  go_wp2
  go_ret
  exact HP.out
 by_cases e5:k=5
 ·subst e5
  have hus:fociO (.mk 5 n nm ts) v=v.args:=by rw [fociO_eq];simp [nodeF]
  rw [hus]
  have HC:=Lib.hid (specAll_any v.args A ac _ ha0 (by omega))
  clear hf ho hv ha ha0 hv0 ho0 hb0 hl hlz hus
  clear p0 r0
  go_wp2_with fail
  refine HC.out.mono ?_
  rintro e w1 ⟨A1,c1,rfl,h1,h2⟩
  have HP:=Lib.hid (list_up HB0.out ⟨A1,c1,rfl,h1,h2⟩)
  clear h1 h2
  go_wp2
  go_ret
  exact HP.out
 by_cases e6:k=6
 ·subst e6
  have hus:fociO (.mk 6 n nm ts) v=atW v.args n:=by
   rw [fociO_eq]
   unfold nodeF atW
   rw [if_neg (by decide),if_neg (by decide),if_neg (by decide),if_neg (by decide),if_pos rfl]
   split
   ·cases v.args[n.toNat]?<;>rfl
   ·rfl
  have h0:=hf.at_
  unfold atW at hus
  by_cases hn:n<v.args.length
  ·obtain ⟨k,rfl⟩:=Int.eq_ofNat_of_zero_le h0
   have hk:k<v.args.length:=by omega
   rw [if_pos hn,show (k:Int).toNat=k by omega,List.getElem?_eq_getElem hk] at hus
   simp only at hus
   obtain ⟨b,off,M,mc,C,cc,rfl,hbl,e0,e1,e2,e3,e4,ht⟩:=ha0.elem k hk
   have hpt:=szVa_part v.args k hk
   have HT:=Lib.hid (specCopyV_any v.args[k] _ _ ht (by omega))
   have HU:=Lib.hid hus
   clear hf ho hv ha ha0 hv0 ho0 hb0 hl hlz hus ht
   clear p0 r0
   go_wp2_with fail
   refine HT.out.mono ?_
   rintro e w1 ⟨v1,rfl,h1,h2⟩
   have HX:=Lib.hid ((VaR.of_in h1).wide (S':=fun q=>w0.heap.size≤q) fun q hq _=>hq.1)
   obtain ⟨T1,U1,T2,U2,_,rfl,_⟩:=h1.open
   have HB1:=Lib.hid h2
   clear h1 h2
   go_wp2
   go_ret
   rw [HU.out]
   exact one_new HB0.out HB1.out HX.out
  ·rw [if_neg hn] at hus
   have HU:=Lib.hid hus
   clear hf ho hv ha ha0 hv0 ho0 hb0 hl hlz hus
   clear p0 r0
   go_wp2
   go_ret
   rw [HU.out]
   exact none_new HB0.out
 exact absurd (hf.leaf hk) (by simp only [leafO,if_neg e1,if_neg e2,if_neg e3,if_neg e4,if_neg e5,if_neg e6,if_neg e7,if_neg e8,if_neg e9,if_neg e10];simp)
set_option maxHeartbeats 4000000 in
theorem specFoci_then (n:Int) (nm:ByteArray) (a b:Ot) (s t:Ty) (kd:Int) (v:Va) (B:Option Addr) (bc:Nat) (vv:Value) (w:World) (hf:Fit (.mk 12 n nm [a,b]) s t kd v) (ho:OtAt w w.heap.size (.agg #[.int .i64 12,.string nm,.int .i64 n,.slice B 2 bc]) (.mk 12 n nm [a,b])) (hv:VaAt w w.heap.size vv v) (ha1:FociSp a) (hb1':FociSp b):
  Calls Tryz.prog 71 #[.agg #[.int .i64 12,.string nm,.int .i64 n,.slice B 2 bc],vv] w (NewL (fociO (.mk 12 n nm [a,b]) v) w):=by
 obtain ⟨L,lc,A,ac,rfl,hnm,hln,hlz,hl,ha⟩:=hv.open
 obtain ⟨hb0,p0,r0,hs0⟩:=boxes2 w 30 41 #[.int .i64 12,.string nm,.int .i64 n,.slice B 2 bc] #[.int .i64 v.kind,.int .i64 v.num,.string v.name,.slice L v.labels.length lc,.slice A v.args.length ac]
 have hv0:=hv.up hb0
 have ha0:=ha.up hb0
 have ho0:=ho.up hb0
 have HB0:=Lib.hid hb0
 have hszv:=hf.szv
 have hsze:=szVa_eq v
 have hszl:=szVas_len v.args
 have HC:=Lib.hid (specThen_any n nm a b s t kd v _ _ _ hf ho0 hv0 ha1 hb1')
 generalize fociO (.mk 12 n nm [a,b]) v=us at *
 clear hf ho hv ha ha0 hv0 ho0 hb0 hl hlz
 go_enter Tryz.func71,Tryz.ntmps71
 go_upto_region 1 with fail
 generalize (w.alloc (.cells #[.int .i64 12,.string nm,.int .i64 n,.slice B 2 bc] 30)).alloc (.cells #[.int .i64 v.kind,.int .i64 v.num,.string v.name,.slice L v.labels.length lc,.slice A v.args.length ac] 41)=w0 at *
 have HZ:=Lib.hid hs0
 have hlo:w.heap.size<w0.heap.size:=p0.lt
 have hlv:w.heap.size+1<w0.heap.size:=r0.lt
 clear hs0
 obtain ⟨po0,po1,po2,po3⟩:=p0.c4
 obtain ⟨pv0,pv1,pv2,pv3,pv4⟩:=r0.c5
 clear p0 r0
 go_wp2_with fail
 refine HC.out.mono ?_
 rintro e w1 ⟨A1,c1,rfl,h1,h2⟩
 have HP:=Lib.hid (list_up HB0.out ⟨A1,c1,rfl,h1,h2⟩)
 clear h1 h2
 go_wp2
 go_ret
 exact HP.out
set_option maxHeartbeats 4000000 in
theorem specFoci_map (n:Int) (nm:ByteArray) (a:Ot) (s t:Ty) (kd:Int) (v:Va) (B:Option Addr) (bc:Nat) (vv:Value) (w:World) (hf:Fit (.mk 11 n nm [a]) s t kd v) (ho:OtAt w w.heap.size (.agg #[.int .i64 11,.string nm,.int .i64 n,.slice B 1 bc]) (.mk 11 n nm [a])) (hv:VaAt w w.heap.size vv v) (ha1:FociSp a):
  Calls Tryz.prog 71 #[.agg #[.int .i64 11,.string nm,.int .i64 n,.slice B 1 bc],vv] w (NewL (fociO (.mk 11 n nm [a]) v) w):=by
 obtain ⟨L,lc,A,ac,rfl,hnm,hln,hlz,hl,ha⟩:=hv.open
 obtain ⟨hb0,p0,r0,hs0⟩:=boxes2 w 30 41 #[.int .i64 11,.string nm,.int .i64 n,.slice B 1 bc] #[.int .i64 v.kind,.int .i64 v.num,.string v.name,.slice L v.labels.length lc,.slice A v.args.length ac]
 have hv0:=hv.up hb0
 have ha0:=ha.up hb0
 have ho0:=ho.up hb0
 have HB0:=Lib.hid hb0
 have hszv:=hf.szv
 have hsze:=szVa_eq v
 have hszl:=szVas_len v.args
 have HC:=Lib.hid (specMap_any n nm a s t kd v _ _ _ hf ho0 hv0 ha1)
 generalize fociO (.mk 11 n nm [a]) v=us at *
 clear hf ho hv ha ha0 hv0 ho0 hb0 hl hlz
 go_enter Tryz.func71,Tryz.ntmps71
 go_upto_region 1 with fail
 generalize (w.alloc (.cells #[.int .i64 11,.string nm,.int .i64 n,.slice B 1 bc] 30)).alloc (.cells #[.int .i64 v.kind,.int .i64 v.num,.string v.name,.slice L v.labels.length lc,.slice A v.args.length ac] 41)=w0 at *
 have HZ:=Lib.hid hs0
 have hlo:w.heap.size<w0.heap.size:=p0.lt
 have hlv:w.heap.size+1<w0.heap.size:=r0.lt
 clear hs0
 obtain ⟨po0,po1,po2,po3⟩:=p0.c4
 obtain ⟨pv0,pv1,pv2,pv3,pv4⟩:=r0.c5
 clear p0 r0
 go_wp2_with fail
 refine HC.out.mono ?_
 rintro e w1 ⟨A1,c1,rfl,h1,h2⟩
 have HP:=Lib.hid (list_up HB0.out ⟨A1,c1,rfl,h1,h2⟩)
 clear h1 h2
 go_wp2
 go_ret
 exact HP.out
set_option maxHeartbeats 8000000 in
theorem specFoci_else (n:Int) (nm:ByteArray) (a b:Ot) (s t:Ty) (kd:Int) (v:Va) (B:Option Addr) (bc:Nat) (vv:Value) (w:World) (hf:Fit (.mk 13 n nm [a,b]) s t kd v) (ho:OtAt w w.heap.size (.agg #[.int .i64 13,.string nm,.int .i64 n,.slice B 2 bc]) (.mk 13 n nm [a,b])) (hv:VaAt w w.heap.size vv v) (ha1:FociSp a) (hb1':FociSp b):
  Calls Tryz.prog 71 #[.agg #[.int .i64 13,.string nm,.int .i64 n,.slice B 2 bc],vv] w (NewL (fociO (.mk 13 n nm [a,b]) v) w):=by
 obtain ⟨L,lc,A,ac,rfl,hnm,hln,hlz,hl,ha⟩:=hv.open
 obtain ⟨hb0,p0,r0,hs0⟩:=boxes2 w 30 41 #[.int .i64 13,.string nm,.int .i64 n,.slice B 2 bc] #[.int .i64 v.kind,.int .i64 v.num,.string v.name,.slice L v.labels.length lc,.slice A v.args.length ac]
 have hv0:=hv.up hb0
 have ha0:=ha.up hb0
 have ho0:=ho.up hb0
 have HB0:=Lib.hid hb0
 have hszv:=hf.szv
 have hsze:=szVa_eq v
 have hszl:=szVas_len v.args
 obtain ⟨ta,ka,tb,kb,hfa,hfb,hus⟩:=hf.else_
 have hsz1:=hfa.szf.2
 obtain ⟨us,hus2⟩:∃ us,us=fociO (.mk 13 n nm [a,b]) v:=⟨_,rfl⟩
 rw [← hus2] at hus ⊢
 obtain ⟨b1,off1,B1,bc1,hBe,hbo,x0,x2,x1,x3,hoa⟩:=(show OtsAt _ _ B [a,b] from otsAt_args ho0).elem 0 (by simp)
 obtain ⟨b1',off1',B2,bc2,hBe',_,y0,y2,y1,y3,hob⟩:=(show OtsAt _ _ B [a,b] from otsAt_args ho0).elem 1 (by simp)
 have hee:=hBe.symm.trans hBe'
 simp only [Option.some.injEq,Addr.mk.injEq,and_true] at hee
 obtain ⟨rfl,rfl⟩:=hee
 subst hBe
 clear hBe'
 simp only [List.getElem_cons_zero,List.getElem_cons_succ,Nat.zero_mul,Nat.one_mul,Nat.add_zero,Nat.add_assoc,Nat.reduceAdd] at x0 x1 x2 x3 hoa y0 y1 y2 y3 hob
 have HC:=Lib.hid (fun W (h:OtAt W W.heap.size (.agg #[.int .i64 a.kind,.string a.name,.int .i64 a.num,.slice B1 a.args.length bc1]) a) (h2:VaAt W W.heap.size (.agg #[.int .i64 v.kind,.int .i64 v.num,.string v.name,.slice L v.labels.length lc,.slice A v.args.length ac]) v)=>ha1 s ta ka v _ _ W hfa h h2)
 have HC2:=Lib.hid (fun W (h:OtAt W W.heap.size (.agg #[.int .i64 b.kind,.string b.name,.int .i64 b.num,.slice B2 b.args.length bc2]) b) (h2:VaAt W W.heap.size (.agg #[.int .i64 v.kind,.int .i64 v.num,.string v.name,.slice L v.labels.length lc,.slice A v.args.length ac]) v)=>hb1' s tb kb v _ _ W hfb h h2)
 have HO:=Lib.hid hoa
 have HO2:=Lib.hid hob
 have HV:=Lib.hid hv0
 obtain ⟨l1,hl1⟩:∃ l1,l1=fociO a v:=⟨_,rfl⟩
 obtain ⟨l2,hl2⟩:∃ l2,l2=fociO b v:=⟨_,rfl⟩
 rw [← hl1] at HC hus hsz1
 rw [← hl2] at HC2 hus
 have HUS:=Lib.hid hus
 clear hf ho hv ha ha0 hv0 ho0 hb0 hl hlz hus hus2 hoa hob hfa hfb hl1 hl2 ha1 hb1'
 go_enter Tryz.func71,Tryz.ntmps71
 go_upto_region 1 with fail
 generalize (w.alloc (.cells #[.int .i64 13,.string nm,.int .i64 n,.slice (some ⟨b1,off1,none⟩) 2 bc] 30)).alloc (.cells #[.int .i64 v.kind,.int .i64 v.num,.string v.name,.slice L v.labels.length lc,.slice A v.args.length ac] 41)=w0 at *
 have HZ:=Lib.hid hs0
 have hlo:w.heap.size<w0.heap.size:=p0.lt
 have hlv:w.heap.size+1<w0.heap.size:=r0.lt
 clear hs0
 obtain ⟨po0,po1,po2,po3⟩:=p0.c4
 obtain ⟨pv0,pv1,pv2,pv3,pv4⟩:=r0.c5
 go_upto_region 20 with fail
 go_cut [5] (fun o wx=>∃ A1 c1,o=.slice A1 l1.length c1∧VasR wx (fun q=>False∨w.heap.size≤q) A1 l1∧Below w0.heap.size w0 wx)
 case first=>
  have KS:=Lib.hid (fun (x:World) (hx:Below w0.heap.size w0 x)=>And.intro (kC hx po3 hlo) (And.intro (kC hx pv0 hlv) (And.intro (kC hx pv1 hlv) (And.intro (kC hx pv2 hlv) (And.intro (kC hx pv3 hlv) (And.intro (kC hx pv4 hlv) (And.intro (kC hx x0 hbo) (And.intro (kC hx x1 hbo) (And.intro (kC hx x2 hbo) (kC hx x3 hbo))))))))))
  have hD:=(Below.refl w0.heap.size w0).drew
  have t_0:=dC po3
  have t_1:=dC pv0
  have t_2:=dC pv1
  have t_3:=dC pv2
  have t_4:=dC pv3
  have t_5:=dC pv4
  have t_6:=dC x0
  have t_7:=dC x1
  have t_8:=dC x2
  have t_9:=dC x3
  go_region_held3 (fun x:World=>x.cell? ⟨w.heap.size,3,none⟩=some (.slice (some ⟨b1,off1,none⟩) 2 bc)∧x.cell? ⟨w.heap.size+1,0,none⟩=some (.int .i64 v.kind)∧x.cell? ⟨w.heap.size+1,1,none⟩=some (.int .i64 v.num)∧x.cell? ⟨w.heap.size+1,2,none⟩=some (.string v.name)∧x.cell? ⟨w.heap.size+1,3,none⟩=some (.slice L v.labels.length lc)∧x.cell? ⟨w.heap.size+1,4,none⟩=some (.slice A v.args.length ac)∧x.cell? ⟨b1,off1,none⟩=some (.int .i64 a.kind)∧x.cell? ⟨b1,off1+1,none⟩=some (.string a.name)∧x.cell? ⟨b1,off1+2,none⟩=some (.int .i64 a.num)∧x.cell? ⟨b1,off1+3,none⟩=some (.slice B1 a.args.length bc1)) (first | (with_reducible exact KS.out _ hD) | (with_reducible exact KS.out _ hb1) | go_keep) (first | (go_at_call 71;(with_reducible refine (HC.out _ (HO.out.up hD) (HV.out.up hD)).mono ?_);rintro e w1 ⟨A1,c1,rfl,h1,h2⟩;have hb1:=hD.trans h2;have HB1:=Lib.hid hb1;have HA1:=Lib.hid (h1.wide (S':=fun q=>False∨w.heap.size≤q) fun q hq _=>.inr (hq.elim False.elim fun h=>Nat.le_trans HB0.out.size h));clear h1 h2))
  all_goals go_wp2
  all_goals go_meet
  all_goals exact ⟨A1,c1,rfl,HA1.out,HB1.out⟩
 case rest=>
  obtain ⟨A1,c1,rfl,h1,hb1⟩:=hcut
  have HA1:=Lib.hid h1
  have HB1:=Lib.hid hb1
  clear h1
  by_cases h0:l1.length=0
  ·have hus:=HUS.out
   rw [if_pos h0] at hus
   subst hus
   have qo3:=kC hb1 po3 hlo
   have qv0:=kC hb1 pv0 hlv
   have qv1:=kC hb1 pv1 hlv
   have qv2:=kC hb1 pv2 hlv
   have qv3:=kC hb1 pv3 hlv
   have qv4:=kC hb1 pv4 hlv
   have z0:=kC hb1 y0 hbo
   have z1:=kC hb1 y1 hbo
   have z2:=kC hb1 y2 hbo
   have z3:=kC hb1 y3 hbo
   have hlo1:w.heap.size<wc.heap.size:=Nat.lt_of_lt_of_le hlo hb1.size
   have hlv1:w.heap.size+1<wc.heap.size:=Nat.lt_of_lt_of_le hlv hb1.size
   have hbo1:b1<wc.heap.size:=Nat.lt_of_lt_of_le hbo hb1.size
   have HO3:=Lib.hid (HO2.out.up hb1)
   have HV3:=Lib.hid (HV.out.up hb1)
   have hz0:((l1.length:Nat):Int)=0:=by omega
   clear hb1
   go_upto_region 22 with fail
   have KS:=Lib.hid (fun (x:World) (hx:Below wc.heap.size wc x)=>And.intro (kC hx qo3 hlo1) (And.intro (kC hx qv0 hlv1) (And.intro (kC hx qv1 hlv1) (And.intro (kC hx qv2 hlv1) (And.intro (kC hx qv3 hlv1) (And.intro (kC hx qv4 hlv1) (And.intro (kC hx z0 hbo1) (And.intro (kC hx z1 hbo1) (And.intro (kC hx z2 hbo1) (kC hx z3 hbo1))))))))))
   have hD:=(Below.refl wc.heap.size wc).drew
   have t_0:=dC qo3
   have t_1:=dC qv0
   have t_2:=dC qv1
   have t_3:=dC qv2
   have t_4:=dC qv3
   have t_5:=dC qv4
   have t_6:=dC z0
   have t_7:=dC z1
   have t_8:=dC z2
   have t_9:=dC z3
   go_region_held3 (fun x:World=>x.cell? ⟨w.heap.size,3,none⟩=some (.slice (some ⟨b1,off1,none⟩) 2 bc)∧x.cell? ⟨w.heap.size+1,0,none⟩=some (.int .i64 v.kind)∧x.cell? ⟨w.heap.size+1,1,none⟩=some (.int .i64 v.num)∧x.cell? ⟨w.heap.size+1,2,none⟩=some (.string v.name)∧x.cell? ⟨w.heap.size+1,3,none⟩=some (.slice L v.labels.length lc)∧x.cell? ⟨w.heap.size+1,4,none⟩=some (.slice A v.args.length ac)∧x.cell? ⟨b1,off1+4,none⟩=some (.int .i64 b.kind)∧x.cell? ⟨b1,off1+5,none⟩=some (.string b.name)∧x.cell? ⟨b1,off1+6,none⟩=some (.int .i64 b.num)∧x.cell? ⟨b1,off1+7,none⟩=some (.slice B2 b.args.length bc2)) (first | (with_reducible exact KS.out _ hD) | (with_reducible exact KS.out _ hb2) | go_keep) (first | (go_at_call 71;(with_reducible refine (HC2.out _ (HO3.out.up hD) (HV3.out.up hD)).mono ?_);rintro e w1 ⟨A2,c2,rfl,h3,h4⟩;have hb2:=hD.trans h4;have HB2:=Lib.hid hb2;have HA2:=Lib.hid (h3.wide (S':=fun q=>False∨w.heap.size≤q) fun q hq _=>.inr (hq.elim False.elim fun h=>Nat.le_trans HB0.out.size (Nat.le_trans HB1.out.size h)));clear h3 h4))
   all_goals go_wp2
   all_goals go_ret
   all_goals exact ⟨A2,c2,rfl,HA2.out,HB0.out.trans ((HB1.out.trans (HB2.out.mono HB1.out.size)).mono HB0.out.size)⟩
  ·have hus:=HUS.out
   rw [if_neg h0] at hus
   subst hus
   have hng:¬ ((us.length:Nat):Int)=0:=by omega
   clear hb1 h0
   go_wp2
   go_ret
   exact ⟨A1,c1,rfl,HA1.out,HB0.out.trans (HB1.out.mono HB0.out.size)⟩
theorem fociSp_any (o:Ot):FociSp o:=by
 induction o using Ot.ind with
 | h k n nm ts ih=>
  intro s t kd v ov vv w hf ho hv
  obtain ⟨B,bc,rfl,_⟩:=ho.open
  simp only [Ot.kind,Ot.num,Ot.name,Ot.args] at ho ⊢
  by_cases e11:k=11
  ·subst e11
   obtain ⟨a,rfl,_⟩:=form_one hf.form rfl
   exact specFoci_map n nm a s t kd v B bc vv w hf ho hv (ih 0 (by simp))
  by_cases e12:k=12
  ·subst e12
   obtain ⟨a,b,rfl,_,_⟩:=form_two hf.form (.inl rfl)
   exact specFoci_then n nm a b s t kd v B bc vv w hf ho hv (ih 0 (by simp)) (ih 1 (by simp))
  by_cases e13:k=13
  ·subst e13
   obtain ⟨a,b,rfl,_,_⟩:=form_two hf.form (.inr rfl)
   exact specFoci_else n nm a b s t kd v B bc vv w hf ho hv (ih 0 (by simp)) (ih 1 (by simp))
  exact specFoci_leaf k n nm ts s t kd v B bc vv w ⟨e11,e12,e13⟩ hf ho hv
end
section
set_option maxRecDepth 100000
set_option linter.unusedSimpArgs false
open Go.RowKit
attribute [local go_sem ↓] Go.wp_at_zero Go.wp_at_succ
def TopS (r:Option (List Va)) (w:World) (e:Ending) (w':World):Prop:=∃ A c,e=.returned (.tuple #[.slice A (r.getD []).length c,.bool r.isSome])∧VasR w' (fun b=>w.heap.size≤b) A (r.getD [])∧Below w.heap.size w w'
def noVaS:Va:=.mk 0 0 ⟨#[]⟩ [] []
theorem noVa_r (w:World) (S:Nat→Prop):VaR w S (.agg #[.int .i64 0,.int .i64 0,.string ⟨#[]⟩,.slice none 0 0,.slice none 0 0]) noVaS:=VaR.of (ls:=[]) (ts:=[]) (Nat.zero_le _) (Nat.zero_le _) (fun i h=>absurd h (by simp)) (fun i h=>absurd h (by simp)) vasR_empty
set_option maxHeartbeats 4000000 in
theorem specFociT_any (s:Ty) (o:Ot) (v:Va) (sv ov vv:Value) (w:World) (hs:TyAt w w.heap.size sv s) (ho:OtAt w w.heap.size ov o) (hv:VaAt w w.heap.size vv v) (zs:szTy s≤1048576) (zo:szOt o≤1048576) (zv:szVa v≤1048576):
  Calls Tryz.prog 22 #[sv,ov,vv] w (TopS (fociB s o v) w):=by
 obtain ⟨L0,l0,A0,a0,rfl,_⟩:=hs.open
 obtain ⟨A1,a1,rfl,_⟩:=ho.open
 obtain ⟨L2,l2,A2,a2,rfl,_⟩:=hv.open
 obtain ⟨hb0,p0,q0,r0,hs0⟩:=boxes3 w 27 30 41 #[.int .i64 s.kind,.slice L0 s.labels.length l0,.slice A0 s.args.length a0] #[.int .i64 o.kind,.string o.name,.int .i64 o.num,.slice A1 o.args.length a1] #[.int .i64 v.kind,.int .i64 v.num,.string v.name,.slice L2 v.labels.length l2,.slice A2 v.args.length a2]
 have hs1:=hs.up hb0
 have ho1:=ho.up hb0
 have hv1:=hv.up hb0
 have HI:=Lib.hid (specIsTyped_any s o _ _ _ hs1 ho1 zs zo)
 have HH:=Lib.hid (fun W (h1:VaAt W W.heap.size (.agg #[.int .i64 v.kind,.int .i64 v.num,.string v.name,.slice L2 v.labels.length l2,.slice A2 v.args.length a2]) v) (h2:TyAt W W.heap.size (.agg #[.int .i64 s.kind,.slice L0 s.labels.length l0,.slice A0 s.args.length a0]) s)=>specHas_any v s _ _ W h1 h2 zv zs)
 have HB0:=Lib.hid hb0
 have HS:=Lib.hid hs1
 have HO:=Lib.hid ho1
 have HV:=Lib.hid hv1
 clear hs ho hv hs1 ho1 hv1 hb0
 go_enter Tryz.func22,Tryz.ntmps22
 go_wp2_with fail
 generalize ((w.alloc (.cells #[.int .i64 s.kind,.slice L0 s.labels.length l0,.slice A0 s.args.length a0] 27)).alloc (.cells #[.int .i64 o.kind,.string o.name,.int .i64 o.num,.slice A1 o.args.length a1] 30)).alloc (.cells #[.int .i64 v.kind,.int .i64 v.num,.string v.name,.slice L2 v.labels.length l2,.slice A2 v.args.length a2] 41)=w0 at *
 cases hty:(opticTypeB s o).isSome
 ·have HN:=Lib.hid (fociB_off (v:=v) hty)
  rw [hty] at HI
  refine HI.out.mono ?_
  rintro e w1 ⟨rfl,hb1⟩
  have HB1:=Lib.hid (HB0.out.trans (hb1.mono HB0.out.size))
  clear hb1 hty
  go_wp2
  refine bodyPost_ret (v:=.tuple #[.slice (some ⟨w1.heap.size,0,none⟩) 0 0,.bool false]) (by simp [results,Tryz.results22,go_sem]) rfl ?_
  rw [HN.out]
  exact ⟨_,_,rfl,vasR_empty,HB1.out.alloc HB1.out.size _⟩
 ·rw [hty] at HI
  refine HI.out.mono ?_
  rintro e w1 ⟨rfl,hb1⟩
  have HB1:=Lib.hid hb1
  have pl:=p0.below hb1 p0.lt
  have ql:=q0.below hb1 q0.lt
  have rl:=r0.below hb1 r0.lt
  have HTY:=Lib.hid hty
  have HH1:=Lib.hid (HH.out w1 (HV.out.up HB1.out) (HS.out.up HB1.out))
  clear hb1 hty HH HI
  obtain ⟨ps0,ps1,ps2⟩:=pl.c3
  obtain ⟨po0,po1,po2,po3⟩:=ql.c4
  obtain ⟨pv0,pv1,pv2,pv3,pv4⟩:=rl.c5
  clear pl ql rl
  cases hty2:hasTypeB v s
  ·have HN:=Lib.hid (fociB_no (o:=o) hty2)
   rw [hty2] at HH1
   clear hty2
   go_wp2_with fail
   refine HH1.out.mono ?_
   rintro e w2 ⟨rfl,hb2⟩
   have HB2:=Lib.hid (HB0.out.trans ((HB1.out.trans (hb2.mono HB1.out.size)).mono HB0.out.size))
   clear hb2 ps0 ps1 ps2 po0 po1 po2 po3 pv0 pv1 pv2 pv3 pv4
   go_wp2
   refine bodyPost_ret (v:=.tuple #[.slice (some ⟨w2.heap.size,0,none⟩) 0 0,.bool false]) (by simp [results,Tryz.results22,go_sem]) rfl ?_
   rw [HN.out]
   exact ⟨_,_,rfl,vasR_empty,HB2.out.alloc HB2.out.size _⟩
  ·obtain ⟨t,kd,hfit⟩:=fit_top HTY.out hty2
   have HN:=Lib.hid (fociB_some HTY.out hty2)
   have hlen:=hfit.szf
   rw [hty2] at HH1
   clear hty2
   go_wp2_with fail
   refine HH1.out.mono ?_
   rintro e w2 ⟨rfl,hb2⟩
   have hb02:=HB1.out.trans (hb2.mono HB1.out.size)
   have HB2:=Lib.hid (HB0.out.trans (hb02.mono HB0.out.size))
   have pl:=p0.below hb02 p0.lt
   have ql:=q0.below hb02 q0.lt
   have rl:=r0.below hb02 r0.lt
   clear ps0 ps1 ps2 po0 po1 po2 po3 pv0 pv1 pv2 pv3 pv4
   obtain ⟨ps0,ps1,ps2⟩:=pl.c3
   obtain ⟨po0,po1,po2,po3⟩:=ql.c4
   obtain ⟨pv0,pv1,pv2,pv3,pv4⟩:=rl.c5
   have HC:=Lib.hid (fociSp_any o s t kd v _ _ w2 hfit (HO.out.up hb02) (HV.out.up hb02))
   obtain ⟨ls,hls⟩:∃ ls,ls=fociO o v:=⟨_,rfl⟩
   rw [← hls] at HC HN hlen
   clear hb2 hb02 pl ql rl hfit hls
   go_wp2_with fail
   refine HC.out.mono ?_
   rintro e w3 ⟨A3,c3,rfl,h3,hb3⟩
   have HL:=Lib.hid (h3.wide (S':=fun q=>w.heap.size≤q) fun q hq _=>hq.elim False.elim fun h=>Nat.le_trans HB2.out.size h)
   have HB3:=Lib.hid (HB2.out.trans (hb3.mono HB2.out.size))
   clear h3 hb3 ps0 ps1 ps2 po0 po1 po2 po3 pv0 pv1 pv2 pv3 pv4
   go_wp2
   refine bodyPost_ret (v:=.tuple #[.slice A3 ls.length c3,.bool true]) (by simp [results,Tryz.results22,go_sem]) rfl ?_
   rw [HN.out]
   exact ⟨A3,c3,rfl,HL.out,HB3.out⟩
def cntspec (r:Option (List Va)):Int:=match r with | some l=>l.length | none=>-1
def Intspec (n:Int) (w:World) (e:Ending) (w':World):Prop:=e=.returned (.int .i64 n)∧Below w.heap.size w w'
set_option maxHeartbeats 4000000 in
theorem specCount_any (s:Ty) (o:Ot) (v:Va) (sv ov vv:Value) (w:World) (hs:TyAt w w.heap.size sv s) (ho:OtAt w w.heap.size ov o) (hv:VaAt w w.heap.size vv v) (zs:szTy s≤1048576) (zo:szOt o≤1048576) (zv:szVa v≤1048576):
  Calls Tryz.prog 27 #[sv,ov,vv] w (Intspec (cntspec (fociB s o v)) w):=by
 obtain ⟨L0,l0,A0,a0,rfl,_⟩:=hs.open
 obtain ⟨A1,a1,rfl,_⟩:=ho.open
 obtain ⟨L2,l2,A2,a2,rfl,_⟩:=hv.open
 obtain ⟨hb0,p0,q0,r0,hs0⟩:=boxes3 w 27 30 41 #[.int .i64 s.kind,.slice L0 s.labels.length l0,.slice A0 s.args.length a0] #[.int .i64 o.kind,.string o.name,.int .i64 o.num,.slice A1 o.args.length a1] #[.int .i64 v.kind,.int .i64 v.num,.string v.name,.slice L2 v.labels.length l2,.slice A2 v.args.length a2]
 have hs1:=hs.up hb0
 have ho1:=ho.up hb0
 have hv1:=hv.up hb0
 have HI:=Lib.hid (specFociT_any s o v _ _ _ _ hs1 ho1 hv1 zs zo zv)
 have HB0:=Lib.hid hb0
 generalize fociB s o v=r at *
 clear hs ho hv hs1 ho1 hv1 hb0 p0 q0 r0 hs0
 go_enter Tryz.func27,Tryz.ntmps27
 go_wp2_with fail
 refine HI.out.mono ?_
 rintro e w1 ⟨A3,c3,rfl,h3,hb1⟩
 have HB1:=Lib.hid (HB0.out.trans (hb1.mono HB0.out.size))
 clear h3 hb1 HI
 cases r with
 | none=>
  go_wp2
  go_ret
  exact ⟨rfl,HB1.out⟩
 | some l=>
  simp only [Option.getD_some,Option.isSome_some]
  go_wp2
  go_ret
  exact ⟨rfl,HB1.out⟩
def firstspec (r:Option (List Va)):Va:=match r with | some (x::_)=>x | _=>noVaS
def hasspec (r:Option (List Va)):Bool:=match r with | some (_::_)=>true | _=>false
def FirstS (x:Va) (b:Bool) (w:World) (e:Ending) (w':World):Prop:=∃ y,e=.returned (.tuple #[y,.bool b])∧VaR w' (fun b=>w.heap.size≤b) y x∧Below w.heap.size w w'
set_option maxHeartbeats 8000000 in
theorem specFirst_any (s:Ty) (o:Ot) (v:Va) (sv ov vv:Value) (w:World) (hs:TyAt w w.heap.size sv s) (ho:OtAt w w.heap.size ov o) (hv:VaAt w w.heap.size vv v) (zs:szTy s≤1048576) (zo:szOt o≤1048576) (zv:szVa v≤1048576):
  Calls Tryz.prog 24 #[sv,ov,vv] w (FirstS (firstspec (fociB s o v)) (hasspec (fociB s o v)) w):=by
 obtain ⟨L0,l0,A0,a0,rfl,_⟩:=hs.open
 obtain ⟨A1,a1,rfl,_⟩:=ho.open
 obtain ⟨L2,l2,A2,a2,rfl,_⟩:=hv.open
 obtain ⟨hb0,p0,q0,r0,z0⟩:=boxes4 w 27 30 41 41 #[.int .i64 s.kind,.slice L0 s.labels.length l0,.slice A0 s.args.length a0] #[.int .i64 o.kind,.string o.name,.int .i64 o.num,.slice A1 o.args.length a1] #[.int .i64 v.kind,.int .i64 v.num,.string v.name,.slice L2 v.labels.length l2,.slice A2 v.args.length a2] #[.int .i64 0,.int .i64 0,.string ⟨#[]⟩,.slice none 0 0,.slice none 0 0]
 have hs1:=hs.up hb0
 have ho1:=ho.up hb0
 have hv1:=hv.up hb0
 have HI:=Lib.hid (specFociT_any s o v _ _ _ _ hs1 ho1 hv1 zs zo zv)
 have HB0:=Lib.hid hb0
 have hz0:((((w.alloc (.cells #[.int .i64 s.kind,.slice L0 s.labels.length l0,.slice A0 s.args.length a0] 27)).alloc (.cells #[.int .i64 o.kind,.string o.name,.int .i64 o.num,.slice A1 o.args.length a1] 30)).alloc (.cells #[.int .i64 v.kind,.int .i64 v.num,.string v.name,.slice L2 v.labels.length l2,.slice A2 v.args.length a2] 41)).alloc (.cells #[.int .i64 0,.int .i64 0,.string ⟨#[]⟩,.slice none 0 0,.slice none 0 0] 41)).heap.size=w.heap.size+4:=by simp
 generalize fociB s o v=r at *
 clear hs ho hv hs1 ho1 hv1 hb0 p0 q0 r0
 go_enter Tryz.func24,Tryz.ntmps24
 go_wp2_with fail
 generalize (((w.alloc (.cells #[.int .i64 s.kind,.slice L0 s.labels.length l0,.slice A0 s.args.length a0] 27)).alloc (.cells #[.int .i64 o.kind,.string o.name,.int .i64 o.num,.slice A1 o.args.length a1] 30)).alloc (.cells #[.int .i64 v.kind,.int .i64 v.num,.string v.name,.slice L2 v.labels.length l2,.slice A2 v.args.length a2] 41)).alloc (.cells #[.int .i64 0,.int .i64 0,.string ⟨#[]⟩,.slice none 0 0,.slice none 0 0] 41)=w0 at *
 have HZ:=Lib.hid hz0
 clear hz0
 refine HI.out.mono ?_
 rintro e w1 ⟨A3,c3,rfl,h3,hb1⟩
 have HB1:=Lib.hid (HB0.out.trans (hb1.mono HB0.out.size))
 have HS1:=Lib.hid hb1.size
 have zl:=z0.below hb1 z0.lt
 have HZL:=Lib.hid zl.lt
 obtain ⟨d0,d1,d2,d3,d4⟩:=zl.c5
 obtain ⟨df0,df1,df2,df3,df4⟩:=zl.f5
 clear hb1 HI z0 zl
 have HF0:=Lib.hid (show FirstS noVaS false w (.returned (.tuple #[.agg #[.int .i64 0,.int .i64 0,.string ⟨#[]⟩,.slice none 0 0,.slice none 0 0],.bool false])) (((((w1.setCell ⟨w.heap.size+1+1+1,0,none⟩ (.int .i64 0)).setCell ⟨w.heap.size+1+1+1,1,none⟩ (.int .i64 0)).setCell ⟨w.heap.size+1+1+1,2,none⟩ (.string ⟨#[]⟩)).setCell ⟨w.heap.size+1+1+1,3,none⟩ (.slice none 0 0)).setCell ⟨w.heap.size+1+1+1,4,none⟩ (.slice none 0 0)) from ⟨_,rfl,noVa_r _ _,((((HB1.out.setCell (p:=⟨w.heap.size+1+1+1,0,none⟩) (by show w.heap.size≤w.heap.size+1+1+1;omega) _).setCell (p:=⟨w.heap.size+1+1+1,1,none⟩) (by show w.heap.size≤w.heap.size+1+1+1;omega) _).setCell (p:=⟨w.heap.size+1+1+1,2,none⟩) (by show w.heap.size≤w.heap.size+1+1+1;omega) _).setCell (p:=⟨w.heap.size+1+1+1,3,none⟩) (by show w.heap.size≤w.heap.size+1+1+1;omega) _).setCell (p:=⟨w.heap.size+1+1+1,4,none⟩) (by show w.heap.size≤w.heap.size+1+1+1;omega) _⟩)
 cases r with
 | none=>
  clear h3
  go_wp2
  refine bodyPost_ret (v:=.tuple #[.agg #[.int .i64 0,.int .i64 0,.string ⟨#[]⟩,.slice none 0 0,.slice none 0 0],.bool false]) (by simp [results,Tryz.results24,go_sem,d0,d1,d2,d3,d4]) rfl ?_
  exact HF0.out
 | some l=>
  simp only [Option.getD_some,Option.isSome_some] at h3 ⊢
  cases l with
  | nil=>
   clear h3
   simp only [List.length_nil]
   go_wp2
   refine bodyPost_ret (v:=.tuple #[.agg #[.int .i64 0,.int .i64 0,.string ⟨#[]⟩,.slice none 0 0,.slice none 0 0],.bool false]) (by simp [results,Tryz.results24,go_sem,d0,d1,d2,d3,d4]) rfl ?_
   exact HF0.out
  | cons x l=>
   obtain ⟨b,off,T1,U1,T2,U2,rfl,hSb,hbl,e0,e1,e2,e3,e4,hx⟩:=h3.elem 0 (by simp)
   simp only [List.getElem_cons_zero,Nat.zero_mul,Nat.add_zero] at e0 e1 e2 e3 e4 hx
   have HX:=Lib.hid hx
   have n0:¬ ((l.length:Int)+1=0):=by omega
   have n1:(0:Int)<(l.length:Int)+1:=by omega
   clear h3 hx
   simp only [List.length_cons]
   go_wp2
   refine bodyPost_ret (v:=.tuple #[.agg #[.int .i64 x.kind,.int .i64 x.num,.string x.name,.slice T1 x.labels.length U1,.slice T2 x.args.length U2],.bool true]) (by simp [results,Tryz.results24,go_sem,d0,d1,d2,d3,d4]) rfl ⟨_,rfl,?_,?_⟩
   ·have hk':∀ q,q≠w.heap.size+1+1+1→((((((w1.setCell ⟨w.heap.size+1+1+1,0,none⟩ (.int .i64 x.kind)).setCell ⟨w.heap.size+1+1+1,1,none⟩ (.int .i64 x.num)).setCell ⟨w.heap.size+1+1+1,2,none⟩ (.string x.name)).setCell ⟨w.heap.size+1+1+1,3,none⟩ (.slice T1 x.labels.length U1)).setCell ⟨w.heap.size+1+1+1,4,none⟩ (.slice T2 x.args.length U2))).heap[q]?=w1.heap[q]?:=fun q hq=>by
     rw [Below.heap_setCell _ _ _ _ hq,Below.heap_setCell _ _ _ _ hq,Below.heap_setCell _ _ _ _ hq,Below.heap_setCell _ _ _ _ hq,Below.heap_setCell _ _ _ _ hq]
    have hzz:=HZ.out
    exact (HX.out.keep (fun q hq _=>hk' q (by omega)) (by simp [World.setCell])).wide fun q hq _=>by omega
   ·exact ((((HB1.out.setCell (p:=⟨w.heap.size+1+1+1,0,none⟩) (by show w.heap.size≤w.heap.size+1+1+1;omega) _).setCell (p:=⟨w.heap.size+1+1+1,1,none⟩) (by show w.heap.size≤w.heap.size+1+1+1;omega) _).setCell (p:=⟨w.heap.size+1+1+1,2,none⟩) (by show w.heap.size≤w.heap.size+1+1+1;omega) _).setCell (p:=⟨w.heap.size+1+1+1,3,none⟩) (by show w.heap.size≤w.heap.size+1+1+1;omega) _).setCell (p:=⟨w.heap.size+1+1+1,4,none⟩) (by show w.heap.size≤w.heap.size+1+1+1;omega) _
end
end Go.Proofs.YtfnblkcmcfofoaaGreatDoor
