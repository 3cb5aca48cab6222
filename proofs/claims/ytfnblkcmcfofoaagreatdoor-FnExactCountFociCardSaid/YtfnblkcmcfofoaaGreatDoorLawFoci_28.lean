/- Lemmas: FociD, FociE. -/
import Derived.Test.YtfnblkcmcfofoaaGreatDoorLawFoci_26
import Derived.Test.YtfnblkcmcfofoaaGreatDoorLawFoci_27
import Derived.Deep.RegionHeld3
import Derived.Deep.DrawnRows
import Derived.Deep.DeepCutAuto

namespace Go.Proofs.YtfnblkcmcfofoaaGreatDoor
section
set_option maxRecDepth 100000
set_option linter.unusedSimpArgs false
open Go.RowKit
attribute [local go_sem ↓] Go.wp_at_zero Go.wp_at_succ
theorem one_post {S:Nat→Prop} {w w0 W:World} {a b c d e:Value} {u:Va} {g m:Nat} (hB:Below w.heap.size w w0) (hv:VaR w0 (fun b=>(S b∧b<w.heap.size)∨w.heap.size≤b) (.agg #[a,b,c,d,e]) u) (hW:Below w0.heap.size w0 W) (hw:Whole1 W g 41 #[a,b,c,d,e]) (hg:w0.heap.size≤g):
  VasPost S [u] w (.returned (.slice (some ⟨g,0,none⟩) 1 m)) W:=
 ⟨_,_,rfl,(VasR.one_at hv hW hw).wide fun b hb _=>by
  have:=hB.size
  rcases hb with (hb | hb) | hb
  ·exact .inl hb.1
  ·exact .inr hb
  ·exact .inr (by omega),hB.trans (hW.mono hB.size)⟩
theorem one_now {S:Nat→Prop} {w w0:World} {a b c d e:Value} {u:Va} {m:Nat} (hB:Below w.heap.size w w0) (hv:VaR w0 (fun b=>(S b∧b<w.heap.size)∨w.heap.size≤b) (.agg #[a,b,c,d,e]) u):
  VasPost S [u] w (.returned (.slice (some ⟨w0.heap.size,0,none⟩) 1 m)) (w0.alloc (.cells #[a,b,c,d,e] 41)):=
 one_post hB hv ((Below.refl _ _).alloc (Nat.le_refl _) _) (Whole1.new _ _ _) (Nat.le_refl _)
theorem one_drew {S:Nat→Prop} {w w0:World} {a b c d e:Value} {u:Va} {m:Nat} (hB:Below w.heap.size w w0) (hv:VaR w0 (fun b=>(S b∧b<w.heap.size)∨w.heap.size≤b) (.agg #[a,b,c,d,e]) u):
  VasPost S [u] w (.returned (.slice (some ⟨w0.heap.size,0,none⟩) 1 m)) (w0.alloc (.cells #[a,b,c,d,e] 41)).drew:=
 one_post hB hv ((Below.refl _ _).alloc (Nat.le_refl _) _).drew (Whole1.new w0 _ _) (Nat.le_refl _)
theorem leaf_r (w:World) (S:Nat→Prop) (k n:Int):VaR w S (.agg #[.int .i64 k,.int .i64 n,.string ⟨#[]⟩,.slice none 0 0,.slice none 0 0]) (.mk k n ⟨#[]⟩ [] []):=
 VaR.of (ls:=[]) (ts:=[]) (Nat.zero_le _) (Nat.zero_le _) (fun i h=>absurd h (by simp)) (fun i h=>absurd h (by simp)) vasR_empty
theorem VasPost.up0 {S:Nat→Prop} {us:List Va} {w w0:World} {e:Ending} {w':World} (h:VasPost (fun b=>(S b∧b<w.heap.size)∨w.heap.size≤b) us w0 e w') (hB:Below w.heap.size w w0):VasPost S us w e w':=by
 obtain ⟨A,c,rfl,h1,h2⟩:=h
 exact ⟨A,c,rfl,h1.wide fun b hb _=>by
  have:=hB.size
  rcases hb with (hb | hb) | hb
  ·exact .inl hb.1
  ·exact .inr hb
  ·exact .inr (by omega),hB.trans (h2.mono hB.size)⟩
set_option maxHeartbeats 16000000 in
theorem fociOf_leaf (k n:Int) (nm:ByteArray) (ts:List Ot) (s t:Ty) (kd:Int) (v:Va) (B:Option Addr) (bc:Nat) (vv:Value) (w:World) (S:Nat→Prop) (hk:k≠11∧k≠12∧k≠13) (hf:Fit (.mk k n nm ts) s t kd v) (ho:OtAt w w.heap.size (.agg #[.int .i64 k,.string nm,.int .i64 n,.slice B ts.length bc]) (.mk k n nm ts)) (hv:VaR w S vv v):
  Calls Tryz.prog 68 #[.agg #[.int .i64 k,.string nm,.int .i64 n,.slice B ts.length bc],vv] w (VasPost S (fociO (.mk k n nm ts) v) w):=by
 obtain ⟨L,lc,A,ac,rfl,hnm,hln,hlz,hl,ha⟩:=hv.open
 obtain ⟨hb0,p0,r0,hs0⟩:=boxes2 w 30 41 #[.int .i64 k,.string nm,.int .i64 n,.slice B ts.length bc] #[.int .i64 v.kind,.int .i64 v.num,.string v.name,.slice L v.labels.length lc,.slice A v.args.length ac]
 have hv0:=((hv.wide (S':=fun b=>(S b∧b<w.heap.size)∨w.heap.size≤b) fun b hb hl=>.inl ⟨hb,hl⟩).up hb0)
 have ha0:=((ha.wide (S':=fun b=>(S b∧b<w.heap.size)∨w.heap.size≤b) fun b hb hl=>.inl ⟨hb,hl⟩).up hb0)
 have ho0:=ho.up hb0
 have HB0:=Lib.hid hb0
 have hszv:=hf.szv
 have hsze:=szVa_eq v
 have hszl:=szVas_len v.args
 go_enter Tryz.func68,Tryz.ntmps68
 go_upto_region 1 with fail
 generalize (w.alloc (.cells #[.int .i64 k,.string nm,.int .i64 n,.slice B ts.length bc] 30)).alloc (.cells #[.int .i64 v.kind,.int .i64 v.num,.string v.name,.slice L v.labels.length lc,.slice A v.args.length ac] 41)=w0 at *
 have HZ:=Lib.hid hs0
 clear hs0
 obtain ⟨po0,po1,po2,po3⟩:=p0.c4
 obtain ⟨pv0,pv1,pv2,pv3,pv4⟩:=r0.c5
 by_cases e1:k=1
 ·subst e1
  have hus:fociO (.mk 1 n nm ts) v=[v]:=by rw [fociO_eq];simp [nodeF]
  rw [hus]
  have HV:=Lib.hid hv0
  clear hf ho hv ha ha0 hv0 ho0 hb0 hl hlz hus
  clear p0 r0
  go_wp2
  go_ret
  exact one_now HB0.out HV.out
 by_cases e2:k=2
 ·subst e2
  obtain ⟨i,hi,hidx,hus⟩:=hf.field
  have HU:=Lib.hid hus
  obtain ⟨b,off,M,mc,C,cc,rfl,hSb,hbl,e0,e1,e2,e3,e4,ht⟩:=ha0.elem i hi
  have HT:=Lib.hid ht
  have HI:=Lib.hid (fun W (h:StrsAt W W.heap.size L v.labels)=>implIndexOf_any L lc W.heap.size v.labels nm W h hln)
  have HL:=Lib.hid ((hl.keep (fun b _ hb=>hb0.block b hb) hb0.size).here)
  have i0:¬ (i:Int)<0:=by omega
  have i1:(i:Int)<(v.args.length:Int):=by omega
  rw [hidx] at HI
  clear hf ho hv ha ha0 hv0 ho0 hb0 hl hlz hus ht hidx
  have hlo:w.heap.size<w0.heap.size:=p0.lt
  have hlv:w.heap.size+1<w0.heap.size:=r0.lt
  clear p0 r0
  go_upto_region 5 with fail
  have KS:=Lib.hid (fun (x:World) (hx:Below w0.heap.size w0 x)=>And.intro (kC hx pv4 hlv) (And.intro (kC hx pv3 hlv) (And.intro (kC hx po1 hlo) (And.intro (kC hx e0 hbl) (And.intro (kC hx e1 hbl) (And.intro (kC hx e2 hbl) (And.intro (kC hx e3 hbl) (kC hx e4 hbl))))))))
  have hD:=(Below.refl w0.heap.size w0).drew
  have t_0:=dC pv4
  have t_1:=dC pv3
  have t_2:=dC po1
  have t_3:=dC e0
  have t_4:=dC e1
  have t_5:=dC e2
  have t_6:=dC e3
  have t_7:=dC e4
  have hDA:=((Below.refl w0.heap.size w0).alloc (Nat.le_refl _) (.cells #[.int .i64 v.args[i].kind,.int .i64 v.args[i].num,.string v.args[i].name,.slice M v.args[i].labels.length mc,.slice C v.args[i].args.length cc] 41)).drew
  go_region_held3 (fun x:World=>x.cell? ⟨w.heap.size+1,4,none⟩=some (.slice (some ⟨b,off,none⟩) v.args.length ac)∧x.cell? ⟨w.heap.size+1,3,none⟩=some (.slice L v.labels.length lc)∧x.cell? ⟨w.heap.size,1,none⟩=some (.string nm)∧x.cell? ⟨b,off+i * 5,none⟩=some (.int .i64 v.args[i].kind)∧x.cell? ⟨b,off+i * 5+1,none⟩=some (.int .i64 v.args[i].num)∧x.cell? ⟨b,off+i * 5+2,none⟩=some (.string v.args[i].name)∧x.cell? ⟨b,off+i * 5+3,none⟩=some (.slice M v.args[i].labels.length mc)∧x.cell? ⟨b,off+i * 5+4,none⟩=some (.slice C v.args[i].args.length cc))
   (first | (with_reducible exact KS.out _ hD) | (with_reducible exact KS.out _ hDA) | go_keep)
   (first | (go_at_call 121;(with_reducible refine (HI.out _ (HL.out.up' hD)).mono ?_);rintro e wx ⟨rfl,hwx⟩;rw [← hwx];clear hwx))
  all_goals go_wp2
  all_goals go_ret
  all_goals rw [HU.out]
  all_goals exact one_drew HB0.out HT.out
 by_cases e3:k=3
 ·subst e3
  have hus:fociO (.mk 3 n nm ts) v=if v.name=nm then v.args else []:=by rw [fociO_eq];simp [nodeF]
  have HC:=Lib.hid (fociCase_any v nm _ _ hv0 hus)
  clear hf ho hv ha ha0 hv0 ho0 hb0 hl hlz hus
  clear p0 r0
  go_wp2_with fail
  refine HC.out.mono ?_
  rintro e w1 ⟨A1,c1,rfl,h1,h2⟩
  have HP:=Lib.hid (VasPost.up0 ⟨A1,c1,rfl,h1,h2⟩ HB0.out)
  clear h1 h2
  go_wp2
  go_ret
  exact HP.out
 by_cases e4:k=4
 ·subst e4
  have hus:fociO (.mk 4 n nm ts) v=v.args:=by rw [fociO_eq];simp [nodeF]
  rw [hus]
  have HA:=Lib.hid ha0
  clear hf ho hv ha ha0 hv0 ho0 hb0 hl hlz hus
  clear p0 r0
  go_wp2
  go_ret
  exact ⟨A,ac,rfl,HA.out.wide fun b hb _=>hb.imp (fun h=>h.1) id,HB0.out⟩
 by_cases e5:k=5
 ·subst e5
  have hus:fociO (.mk 5 n nm ts) v=v.args:=by rw [fociO_eq];simp [nodeF]
  rw [hus]
  have HA:=Lib.hid ha0
  clear hf ho hv ha ha0 hv0 ho0 hb0 hl hlz hus
  clear p0 r0
  go_wp2
  go_ret
  exact ⟨A,ac,rfl,HA.out.wide fun b hb _=>hb.imp (fun h=>h.1) id,HB0.out⟩
 by_cases e6:k=6
 ·subst e6
  have hus:fociO (.mk 6 n nm ts) v=atV v.args n:=by
   rw [fociO_eq]
   unfold nodeF atV
   rw [if_neg (by decide),if_neg (by decide),if_neg (by decide),if_neg (by decide),if_pos rfl]
   split
   ·cases v.args[n.toNat]?<;>rfl
   ·rfl
  have HC:=Lib.hid (fociAt_any v n _ _ hv0 hf.at_ hus)
  clear hf ho hv ha ha0 hv0 ho0 hb0 hl hlz hus
  clear p0 r0
  go_wp2_with fail
  refine HC.out.mono ?_
  rintro e w1 ⟨A1,c1,rfl,h1,h2⟩
  have HP:=Lib.hid (VasPost.up0 ⟨A1,c1,rfl,h1,h2⟩ HB0.out)
  clear h1 h2
  go_wp2
  go_ret
  exact HP.out
 by_cases e7:k=7
 ·subst e7
  have hus:fociO (.mk 7 n nm ts) v=[intVa (IntKind.i64.wrap (v.num+n))]:=by rw [fociO_eq];simp [nodeF]
  obtain ⟨z,hz⟩:∃ z,z=IntKind.i64.wrap (v.num+n):=⟨_,rfl⟩
  have HU:=Lib.hid (show fociO (.mk 7 n nm ts) v=[.mk 1 z ⟨#[]⟩ [] []] by rw [hus,hz];rfl)
  have HW:=hz.symm
  clear hf ho hv ha ha0 hv0 ho0 hb0 hl hlz hus hz
  clear p0 r0
  go_wp2
  go_ret
  rw [HU.out]
  exact one_now HB0.out (leaf_r _ _ _ _)
 by_cases e8:k=8
 ·subst e8
  have hus:fociO (.mk 8 n nm ts) v=[boolVa (decide (v.num=0))]:=by rw [fociO_eq];simp [nodeF]
  have h01:=hf.not_
  obtain ⟨z,hz⟩:∃ z:Int,z=1 - v.num:=⟨_,rfl⟩
  have hz2:boolVa (decide (v.num=0))=.mk 2 z ⟨#[]⟩ [] []:=by
   rcases h01 with h | h<;>simp [boolVa,hz,h]
  have HU:=Lib.hid (show fociO (.mk 8 n nm ts) v=[.mk 2 z ⟨#[]⟩ [] []] by rw [hus,hz2])
  have HW:IntKind.i64.wrap (1 - v.num)=z:=by
   rcases h01 with h | h<;>rw [hz,h]<;>rfl
  clear hf ho hv ha ha0 hv0 ho0 hb0 hl hlz hus hz hz2 h01
  clear p0 r0
  go_wp2
  go_ret
  rw [HU.out]
  exact one_now HB0.out (leaf_r _ _ _ _)
 by_cases e9:k=9
 ·subst e9
  have hus:fociO (.mk 9 n nm ts) v=[listVa v.args.reverse]:=by rw [fociO_eq];simp [nodeF]
  rw [hus]
  have HC:=Lib.hid (turned_any v _ _ hv0 (by omega))
  clear hf ho hv ha ha0 hv0 ho0 hb0 hl hlz hus
  clear p0 r0
  go_wp2_with fail
  refine HC.out.mono ?_
  rintro e w1 ⟨A1,c1,rfl,h1,h2⟩
  have HB1:=Lib.hid (HB0.out.trans (h2.mono HB0.out.size))
  have HV:=Lib.hid (VaR.of (k:=5) (n:=0) (nm:=⟨#[]⟩) (ls:=[]) (L:=none) (lc:=0) (ac:=c1) (Nat.zero_le _) (Nat.zero_le _) (fun i h=>absurd h (by simp)) (fun i h=>absurd h (by simp)) (h1.wide (S':=fun b=>(S b∧b<w.heap.size)∨w.heap.size≤b) fun b hb _=>hb.elim id fun h=>.inr (Nat.le_trans HB0.out.size h)))
  rw [List.length_reverse] at HV
  clear h1 h2
  go_wp2
  go_ret
  exact one_now HB1.out HV.out
 by_cases e10:k=10
 ·subst e10
  have hus:fociO (.mk 10 n nm ts) v=[recVa nm v]:=by rw [fociO_eq];simp [nodeF]
  rw [hus]
  have hn4:=hf.name
  have HV:=Lib.hid hv0
  clear hf ho hv ha ha0 hv0 ho0 hb0 hl hlz hus
  have hlv:w.heap.size+1<w0.heap.size:=r0.lt
  clear p0 r0
  have hb1:Below w0.heap.size w0 ((w0.alloc (.cells #[.string nm] 9)).alloc (.cells #[.int .i64 v.kind,.int .i64 v.num,.string v.name,.slice L v.labels.length lc,.slice A v.args.length ac] 41)):=((Below.refl _ _).alloc (Nat.le_refl _) _).alloc (by simp) _
  have hw1:Whole1 ((w0.alloc (.cells #[.string nm] 9)).alloc (.cells #[.int .i64 v.kind,.int .i64 v.num,.string v.name,.slice L v.labels.length lc,.slice A v.args.length ac] 41)) w0.heap.size 9 #[.string nm]:=(Whole1.new w0 9 #[.string nm]).below ((Below.refl (w0.heap.size+1) _).alloc (by simp) _) (Nat.lt_succ_self _)
  have hw2:Whole1 ((w0.alloc (.cells #[.string nm] 9)).alloc (.cells #[.int .i64 v.kind,.int .i64 v.num,.string v.name,.slice L v.labels.length lc,.slice A v.args.length ac] 41)) (w0.heap.size+1) 41 #[.int .i64 v.kind,.int .i64 v.num,.string v.name,.slice L v.labels.length lc,.slice A v.args.length ac]:=by
   have:=Whole1.new (w0.alloc (.cells #[.string nm] 9)) 41 #[.int .i64 v.kind,.int .i64 v.num,.string v.name,.slice L v.labels.length lc,.slice A v.args.length ac]
   rw [show (w0.alloc (.cells #[.string nm] 9)).heap.size=w0.heap.size+1 by simp] at this
   exact this
  have HB1:=Lib.hid (HB0.out.trans (hb1.mono HB0.out.size))
  have HR:=Lib.hid (VaR.of (k:=3) (n:=0) (nm:=⟨#[]⟩) (ls:=[nm]) (L:=some ⟨w0.heap.size,0,none⟩) (lc:=1) (ac:=1) (Nat.zero_le _) (by simp [maxLen]) (fun i h=>by
    have h0:i=0:=by simp at h;exact h
    subst h0
    simp [maxLen];omega) (fun i h=>by
    have h0:i=0:=by simp at h;exact h
    subst h0
    exact ⟨w0.heap.size,0,rfl,.inr HB0.out.size,hw1.lt,by rw [hw1.cell];rfl⟩) ((VasR.one_at HV.out hb1 hw2).wide (S':=fun b=>(S b∧b<w.heap.size)∨w.heap.size≤b) fun b hb _=>hb.elim id fun h=>.inr (by have:=HB0.out.size;omega)))
  have HS2:=Lib.hid (show ((w0.alloc (.cells #[.string nm] 9)).alloc (.cells #[.int .i64 v.kind,.int .i64 v.num,.string v.name,.slice L v.labels.length lc,.slice A v.args.length ac] 41)).heap.size=w0.heap.size+1+1 by simp)
  have hA:=(Below.refl w0.heap.size w0).alloc (Nat.le_refl _) (.cells #[.string nm] 9)
  have pa0:=kC hA pv0 hlv
  have pa1:=kC hA pv1 hlv
  have pa2:=kC hA pv2 hlv
  have pa3:=kC hA pv3 hlv
  have pa4:=kC hA pv4 hlv
  clear hb1 hw1 hw2 hA hlv
  go_wp2
  go_ret
  exact one_post HB1.out HR.out ((Below.refl _ _).alloc (Nat.le_refl _) _) (by rw [← HS2.out];exact Whole1.new _ _ _) (by rw [HS2.out];exact Nat.le_refl _)
 exact absurd (hf.leaf hk) (by simp only [leafO,if_neg e1,if_neg e2,if_neg e3,if_neg e4,if_neg e5,if_neg e6,if_neg e7,if_neg e8,if_neg e9,if_neg e10];simp)
end
section
set_option maxRecDepth 100000
set_option linter.unusedSimpArgs false
open Go.RowKit
attribute [local go_sem ↓] Go.wp_at_zero Go.wp_at_succ
theorem OtAt.parts {w:World} {X:Nat} {a b c:Value} {A:Option Addr} {n ac:Nat} {t:Ot} (h:OtAt w X (.agg #[a,b,c,.slice A n ac]) t):OtsAt w X A t.args:=by
 obtain ⟨A',ac',e,_,h2⟩:=h.open
 simp only [Value.agg.injEq,Array.mk.injEq,List.cons.injEq,Value.slice.injEq,and_true] at e
 obtain ⟨_,_,_,rfl,_⟩:=e
 exact h2
set_option maxHeartbeats 4000000 in
theorem fociOf_map (n:Int) (nm:ByteArray) (a:Ot) (s t:Ty) (kd:Int) (v:Va) (B:Option Addr) (bc:Nat) (vv:Value) (w:World) (S:Nat→Prop) (hf:Fit (.mk 11 n nm [a]) s t kd v) (ho:OtAt w w.heap.size (.agg #[.int .i64 11,.string nm,.int .i64 n,.slice B 1 bc]) (.mk 11 n nm [a])) (hv:VaR w S vv v) (ha1:FociOne a):
  Calls Tryz.prog 68 #[.agg #[.int .i64 11,.string nm,.int .i64 n,.slice B 1 bc],vv] w (VasPost S (fociO (.mk 11 n nm [a]) v) w):=by
 obtain ⟨L,lc,A,ac,rfl,hnm,hln,hlz,hl,ha⟩:=hv.open
 obtain ⟨hb0,p0,r0,hs0⟩:=boxes2 w 30 41 #[.int .i64 11,.string nm,.int .i64 n,.slice B 1 bc] #[.int .i64 v.kind,.int .i64 v.num,.string v.name,.slice L v.labels.length lc,.slice A v.args.length ac]
 have hv0:=((hv.wide (S':=fun b=>(S b∧b<w.heap.size)∨w.heap.size≤b) fun b hb hl=>.inl ⟨hb,hl⟩).up hb0)
 have ha0:=((ha.wide (S':=fun b=>(S b∧b<w.heap.size)∨w.heap.size≤b) fun b hb hl=>.inl ⟨hb,hl⟩).up hb0)
 have ho0:=ho.up hb0
 have HB0:=Lib.hid hb0
 have hszv:=hf.szv
 have hsze:=szVa_eq v
 have hszl:=szVas_len v.args
 obtain ⟨te,ta,hfit,hus⟩:=hf.map_
 rw [hus]
 obtain ⟨b1,off1,B1,bc1,rfl,hbo,x0,x2,x1,x3,hoa⟩:=(show OtsAt _ _ B [a] from ho0.parts).elem 0 (by simp)
 simp only [List.getElem_cons_zero,Nat.zero_mul,Nat.add_zero] at x0 x1 x2 x3 hoa
 have hsum:=hf.szf.1
 rw [hus] at hsum
 have hsum2:(v.args.flatMap (fociO a)).length≤1048576:=by
  have h1:=szVas_len (v.args.flatMap (fociO a))
  have h2:szVas [listVa (v.args.flatMap (fociO a))]=1+szVas (v.args.flatMap (fociO a)):=by
   have h0:(⟨#[]⟩:ByteArray).size=0:=rfl
   rw [szVas,szVas,listVa,szVa,sumSizes,h0]
   simp
  omega
 have HC:=Lib.hid (fun W (h:OtAt W W.heap.size (.agg #[.int .i64 a.kind,.string a.name,.int .i64 a.num,.slice B1 a.args.length bc1]) a) (h2:VasR W (fun b=>(S b∧b<w.heap.size)∨w.heap.size≤b) A v.args)=>fociAll_any a ha1 te ta 1 v.args (fun i hi=>hfit _ (List.getElem_mem hi)) _ A ac W _ h h2 (by omega) hsum2)
 have HO:=Lib.hid hoa
 have HA:=Lib.hid ha0
 obtain ⟨ls,hls⟩:∃ ls,ls=v.args.flatMap (fociO a):=⟨_,rfl⟩
 rw [← hls] at HC ⊢
 clear hf ho hv ha ha0 hv0 ho0 hb0 hl hlz hus hoa hfit hsum hsum2 hls ha1
 go_enter Tryz.func68,Tryz.ntmps68
 go_upto_region 1 with fail
 generalize (w.alloc (.cells #[.int .i64 11,.string nm,.int .i64 n,.slice (some ⟨b1,off1,none⟩) 1 bc] 30)).alloc (.cells #[.int .i64 v.kind,.int .i64 v.num,.string v.name,.slice L v.labels.length lc,.slice A v.args.length ac] 41)=w0 at *
 have HZ:=Lib.hid hs0
 clear hs0
 obtain ⟨po0,po1,po2,po3⟩:=p0.c4
 obtain ⟨pv0,pv1,pv2,pv3,pv4⟩:=r0.c5
 have hlo:w.heap.size<w0.heap.size:=p0.lt
 have hlv:w.heap.size+1<w0.heap.size:=r0.lt
 clear p0 r0
 go_upto_region 22 with fail
 have KS:=Lib.hid (fun (x:World) (hx:Below w0.heap.size w0 x)=>And.intro (kC hx po3 hlo) (And.intro (kC hx pv4 hlv) (And.intro (kC hx x0 hbo) (And.intro (kC hx x1 hbo) (And.intro (kC hx x2 hbo) (kC hx x3 hbo))))))
 have hD:=(Below.refl w0.heap.size w0).drew
 have t_0:=dC po3
 have t_1:=dC pv4
 have t_2:=dC x0
 have t_3:=dC x1
 have t_4:=dC x2
 have t_5:=dC x3
 go_region_held3 (fun x:World=>x.cell? ⟨w.heap.size,3,none⟩=some (.slice (some ⟨b1,off1,none⟩) 1 bc)∧x.cell? ⟨w.heap.size+1,4,none⟩=some (.slice A v.args.length ac)∧x.cell? ⟨b1,off1,none⟩=some (.int .i64 a.kind)∧x.cell? ⟨b1,off1+1,none⟩=some (.string a.name)∧x.cell? ⟨b1,off1+2,none⟩=some (.int .i64 a.num)∧x.cell? ⟨b1,off1+3,none⟩=some (.slice B1 a.args.length bc1))
  (first | (with_reducible exact KS.out _ hD) | (with_reducible exact KS.out _ hb1) | (with_reducible exact KS.out _ hA1) | go_keep)
  (first | (go_at_call 125;(with_reducible refine (HC.out _ (HO.out.up hD) (HA.out.up hD)).mono ?_);rintro e w1 ⟨A1,c1,rfl,h1,h2⟩;have hb1:=hD.trans h2;have hA1:=hb1.trans (((Below.refl w1.heap.size w1).alloc (Nat.le_refl _) (.cells #[.int .i64 5,.int .i64 0,.string ⟨#[]⟩,.slice none 0 0,.slice A1 ls.length c1] 41)).mono hb1.size);have HB1:=Lib.hid (HB0.out.trans (hb1.mono HB0.out.size));have HV:=Lib.hid (VaR.of (k:=5) (n:=0) (nm:=⟨#[]⟩) (ls:=[]) (L:=none) (lc:=0) (ac:=c1) (Nat.zero_le _) (Nat.zero_le _) (fun i h=>absurd h (by simp)) (fun i h=>absurd h (by simp)) (h1.wide (S':=(fun b=>(S b∧b<w.heap.size)∨w.heap.size≤b)) fun b hb _=>hb.elim id fun h=>.inr (Nat.le_trans HB0.out.size h)));clear h1 h2))
 all_goals go_wp2
 all_goals go_ret
 all_goals exact one_now HB1.out HV.out
set_option maxHeartbeats 8000000 in
theorem fociOf_then (n:Int) (nm:ByteArray) (a b:Ot) (s t:Ty) (kd:Int) (v:Va) (B:Option Addr) (bc:Nat) (vv:Value) (w:World) (S:Nat→Prop) (hf:Fit (.mk 12 n nm [a,b]) s t kd v) (ho:OtAt w w.heap.size (.agg #[.int .i64 12,.string nm,.int .i64 n,.slice B 2 bc]) (.mk 12 n nm [a,b])) (hv:VaR w S vv v) (ha1:FociOne a) (hb1':FociOne b):
  Calls Tryz.prog 68 #[.agg #[.int .i64 12,.string nm,.int .i64 n,.slice B 2 bc],vv] w (VasPost S (fociO (.mk 12 n nm [a,b]) v) w):=by
 obtain ⟨L,lc,A,ac,rfl,hnm,hln,hlz,hl,ha⟩:=hv.open
 obtain ⟨hb0,p0,r0,hs0⟩:=boxes2 w 30 41 #[.int .i64 12,.string nm,.int .i64 n,.slice B 2 bc] #[.int .i64 v.kind,.int .i64 v.num,.string v.name,.slice L v.labels.length lc,.slice A v.args.length ac]
 have hv0:=((hv.wide (S':=fun b=>(S b∧b<w.heap.size)∨w.heap.size≤b) fun b hb hl=>.inl ⟨hb,hl⟩).up hb0)
 have ha0:=((ha.wide (S':=fun b=>(S b∧b<w.heap.size)∨w.heap.size≤b) fun b hb hl=>.inl ⟨hb,hl⟩).up hb0)
 have ho0:=ho.up hb0
 have HB0:=Lib.hid hb0
 have hszv:=hf.szv
 have hsze:=szVa_eq v
 have hszl:=szVas_len v.args
 obtain ⟨ta,ka,kb,hfa,hfb,hus⟩:=hf.then_
 have hsum:=hf.szf.2
 rw [hus] at hsum ⊢
 obtain ⟨b1,off1,B1,bc1,hBe,hbo,x0,x2,x1,x3,hoa⟩:=(show OtsAt _ _ B [a,b] from ho0.parts).elem 0 (by simp)
 obtain ⟨b1',off1',B2,bc2,hBe',_,y0,y2,y1,y3,hob⟩:=(show OtsAt _ _ B [a,b] from ho0.parts).elem 1 (by simp)
 have hee:=hBe.symm.trans hBe'
 simp only [Option.some.injEq,Addr.mk.injEq,and_true] at hee
 obtain ⟨rfl,rfl⟩:=hee
 subst hBe
 clear hBe'
 simp only [List.getElem_cons_zero,List.getElem_cons_succ,Nat.zero_mul,Nat.one_mul,Nat.add_zero,Nat.add_assoc,Nat.reduceAdd] at x0 x1 x2 x3 hoa y0 y1 y2 y3 hob
 have HC:=Lib.hid (fun W (h:OtAt W W.heap.size (.agg #[.int .i64 a.kind,.string a.name,.int .i64 a.num,.slice B1 a.args.length bc1]) a) (h2:VaR W (fun b=>(S b∧b<w.heap.size)∨w.heap.size≤b) (.agg #[.int .i64 v.kind,.int .i64 v.num,.string v.name,.slice L v.labels.length lc,.slice A v.args.length ac]) v)=>ha1 s ta ka v _ _ W _ hfa h h2)
 have HC2:=Lib.hid (fun W A1 c1 S1 (h:OtAt W W.heap.size (.agg #[.int .i64 b.kind,.string b.name,.int .i64 b.num,.slice B2 b.args.length bc2]) b) (h2:VasR W S1 A1 (fociO a v))=>fociAll_any b hb1' ta t kb (fociO a v) (fun i hi=>hfb _ (List.getElem_mem hi)) _ A1 c1 W S1 h h2 (by have:=hfa.szf.2;omega) (by omega))
 have HO:=Lib.hid hoa
 have HO2:=Lib.hid hob
 have HV:=Lib.hid hv0
 obtain ⟨ls,hls⟩:∃ ls,ls=(fociO a v).flatMap (fociO b):=⟨_,rfl⟩
 obtain ⟨l1,hl1⟩:∃ l1,l1=fociO a v:=⟨_,rfl⟩
 rw [← hls] at HC2 ⊢
 rw [← hl1] at HC HC2
 clear hf ho hv ha ha0 hv0 ho0 hb0 hl hlz hus hoa hob hfa hfb hsum hls hl1 ha1 hb1'
 go_enter Tryz.func68,Tryz.ntmps68
 go_upto_region 1 with fail
 generalize (w.alloc (.cells #[.int .i64 12,.string nm,.int .i64 n,.slice (some ⟨b1,off1,none⟩) 2 bc] 30)).alloc (.cells #[.int .i64 v.kind,.int .i64 v.num,.string v.name,.slice L v.labels.length lc,.slice A v.args.length ac] 41)=w0 at *
 have HZ:=Lib.hid hs0
 clear hs0
 obtain ⟨po0,po1,po2,po3⟩:=p0.c4
 obtain ⟨pv0,pv1,pv2,pv3,pv4⟩:=r0.c5
 have hlo:w.heap.size<w0.heap.size:=p0.lt
 have hlv:w.heap.size+1<w0.heap.size:=r0.lt
 clear p0 r0
 go_upto_region 24 with fail
 have KS:=Lib.hid (fun (x:World) (hx:Below w0.heap.size w0 x)=>And.intro (kC hx po3 hlo) (And.intro (kC hx pv0 hlv) (And.intro (kC hx pv1 hlv) (And.intro (kC hx pv2 hlv) (And.intro (kC hx pv3 hlv) (And.intro (kC hx pv4 hlv) (And.intro (kC hx x0 hbo) (And.intro (kC hx x1 hbo) (And.intro (kC hx x2 hbo) (And.intro (kC hx x3 hbo) (And.intro (kC hx y0 hbo) (And.intro (kC hx y1 hbo) (And.intro (kC hx y2 hbo) (kC hx y3 hbo))))))))))))))
 have hD:=(Below.refl w0.heap.size w0).drew
 have t_0:=dC po3
 have t_1:=dC pv0
 have t_2:=dC pv1
 have t_3:=dC pv2
 have t_4:=dC pv3
 have t_5:=dC pv4
 have t_6:=dC x0
 have t_7:=dC x1
 have t_8:=dC x2
 have t_9:=dC x3
 have t_10:=dC y0
 have t_11:=dC y1
 have t_12:=dC y2
 have t_13:=dC y3
 go_region_held3 (fun x:World=>x.cell? ⟨w.heap.size,3,none⟩=some (.slice (some ⟨b1,off1,none⟩) 2 bc)∧x.cell? ⟨w.heap.size+1,0,none⟩=some (.int .i64 v.kind)∧x.cell? ⟨w.heap.size+1,1,none⟩=some (.int .i64 v.num)∧x.cell? ⟨w.heap.size+1,2,none⟩=some (.string v.name)∧x.cell? ⟨w.heap.size+1,3,none⟩=some (.slice L v.labels.length lc)∧x.cell? ⟨w.heap.size+1,4,none⟩=some (.slice A v.args.length ac)∧x.cell? ⟨b1,off1,none⟩=some (.int .i64 a.kind)∧x.cell? ⟨b1,off1+1,none⟩=some (.string a.name)∧x.cell? ⟨b1,off1+2,none⟩=some (.int .i64 a.num)∧x.cell? ⟨b1,off1+3,none⟩=some (.slice B1 a.args.length bc1)∧x.cell? ⟨b1,off1+4,none⟩=some (.int .i64 b.kind)∧x.cell? ⟨b1,off1+5,none⟩=some (.string b.name)∧x.cell? ⟨b1,off1+6,none⟩=some (.int .i64 b.num)∧x.cell? ⟨b1,off1+7,none⟩=some (.slice B2 b.args.length bc2))
  (first | (with_reducible exact KS.out _ hD) | (with_reducible exact KS.out _ hb1) | (with_reducible exact KS.out _ hb2) | go_keep)
  (first | (go_at_call 68;(with_reducible refine (HC.out _ (HO.out.up hD) (HV.out.up hD)).mono ?_);rintro e w1 ⟨A1,c1,rfl,h1,h2⟩;have hb1:=hD.trans h2;have HA1:=Lib.hid h1;clear h1 h2) | (go_at_call 125;(with_reducible refine (HC2.out _ _ _ _ (HO2.out.up hb1) HA1.out).mono ?_);rintro e w2 ⟨A2,c2,rfl,h3,h4⟩;have hb2:=hb1.trans (h4.mono hb1.size);have HB2:=Lib.hid (HB0.out.trans (hb2.mono HB0.out.size));have HA2:=Lib.hid (h3.wide (S':=fun q=>S q∨w.heap.size≤q) fun q hq _=>by have e1:=HB0.out.size;have e2:=hb1.size;rcases hq with ((hq | hq) | hq) | hq;exact .inl hq.1;exact .inr hq;exact .inr (Nat.le_trans e1 hq);exact .inr (Nat.le_trans e1 (Nat.le_trans e2 hq)));clear h3 h4))
 all_goals go_wp2
 all_goals go_ret
 all_goals exact ⟨A2,c2,rfl,HA2.out,HB2.out⟩
set_option maxHeartbeats 8000000 in
theorem fociElse_any (n:Int) (nm:ByteArray) (a b:Ot) (s t:Ty) (kd:Int) (v:Va) (B:Option Addr) (bc:Nat) (vv:Value) (w:World) (S:Nat→Prop) (hf:Fit (.mk 13 n nm [a,b]) s t kd v) (ho:OtAt w w.heap.size (.agg #[.int .i64 13,.string nm,.int .i64 n,.slice B 2 bc]) (.mk 13 n nm [a,b])) (hv:VaR w S vv v) (ha1:FociOne a) (hb1':FociOne b):
  Calls Tryz.prog 126 #[.agg #[.int .i64 13,.string nm,.int .i64 n,.slice B 2 bc],vv] w (VasPost S (fociO (.mk 13 n nm [a,b]) v) w):=by
 obtain ⟨L,lc,A,ac,rfl,hnm,hln,hlz,hl,ha⟩:=hv.open
 obtain ⟨hb0,p0,r0,hs0⟩:=boxes2 w 30 41 #[.int .i64 13,.string nm,.int .i64 n,.slice B 2 bc] #[.int .i64 v.kind,.int .i64 v.num,.string v.name,.slice L v.labels.length lc,.slice A v.args.length ac]
 have hv0:=((hv.wide (S':=fun b=>(S b∧b<w.heap.size)∨w.heap.size≤b) fun b hb hl=>.inl ⟨hb,hl⟩).up hb0)
 have ha0:=((ha.wide (S':=fun b=>(S b∧b<w.heap.size)∨w.heap.size≤b) fun b hb hl=>.inl ⟨hb,hl⟩).up hb0)
 have ho0:=ho.up hb0
 have HB0:=Lib.hid hb0
 have hszv:=hf.szv
 have hsze:=szVa_eq v
 have hszl:=szVas_len v.args
 obtain ⟨ta,ka,tb,kb,hfa,hfb,hus⟩:=hf.else_
 have hsz1:=hfa.szf.2
 obtain ⟨us,hus2⟩:∃ us,us=fociO (.mk 13 n nm [a,b]) v:=⟨_,rfl⟩
 rw [← hus2] at hus ⊢
 obtain ⟨b1,off1,B1,bc1,hBe,hbo,x0,x2,x1,x3,hoa⟩:=(show OtsAt _ _ B [a,b] from ho0.parts).elem 0 (by simp)
 obtain ⟨b1',off1',B2,bc2,hBe',_,y0,y2,y1,y3,hob⟩:=(show OtsAt _ _ B [a,b] from ho0.parts).elem 1 (by simp)
 have hee:=hBe.symm.trans hBe'
 simp only [Option.some.injEq,Addr.mk.injEq,and_true] at hee
 obtain ⟨rfl,rfl⟩:=hee
 subst hBe
 clear hBe'
 simp only [List.getElem_cons_zero,List.getElem_cons_succ,Nat.zero_mul,Nat.one_mul,Nat.add_zero,Nat.add_assoc,Nat.reduceAdd] at x0 x1 x2 x3 hoa y0 y1 y2 y3 hob
 have HC:=Lib.hid (fun W (h:OtAt W W.heap.size (.agg #[.int .i64 a.kind,.string a.name,.int .i64 a.num,.slice B1 a.args.length bc1]) a) (h2:VaR W (fun b=>(S b∧b<w.heap.size)∨w.heap.size≤b) (.agg #[.int .i64 v.kind,.int .i64 v.num,.string v.name,.slice L v.labels.length lc,.slice A v.args.length ac]) v)=>ha1 s ta ka v _ _ W _ hfa h h2)
 have HC2:=Lib.hid (fun W (h:OtAt W W.heap.size (.agg #[.int .i64 b.kind,.string b.name,.int .i64 b.num,.slice B2 b.args.length bc2]) b) (h2:VaR W (fun b=>(S b∧b<w.heap.size)∨w.heap.size≤b) (.agg #[.int .i64 v.kind,.int .i64 v.num,.string v.name,.slice L v.labels.length lc,.slice A v.args.length ac]) v)=>hb1' s tb kb v _ _ W _ hfb h h2)
 have HO:=Lib.hid hoa
 have HO2:=Lib.hid hob
 have HV:=Lib.hid hv0
 obtain ⟨l1,hl1⟩:∃ l1,l1=fociO a v:=⟨_,rfl⟩
 obtain ⟨l2,hl2⟩:∃ l2,l2=fociO b v:=⟨_,rfl⟩
 rw [← hl1] at HC hus hsz1
 rw [← hl2] at HC2 hus
 have HUS:=Lib.hid hus
 clear hf ho hv ha ha0 hv0 ho0 hb0 hl hlz hus hus2 hoa hob hfa hfb hl1 hl2 ha1 hb1'
 go_enter Tryz.func126,Tryz.ntmps126
 go_upto_region 1 with fail
 generalize (w.alloc (.cells #[.int .i64 13,.string nm,.int .i64 n,.slice (some ⟨b1,off1,none⟩) 2 bc] 30)).alloc (.cells #[.int .i64 v.kind,.int .i64 v.num,.string v.name,.slice L v.labels.length lc,.slice A v.args.length ac] 41)=w0 at *
 have HZ:=Lib.hid hs0
 clear hs0
 obtain ⟨po0,po1,po2,po3⟩:=p0.c4
 obtain ⟨pv0,pv1,pv2,pv3,pv4⟩:=r0.c5
 have hlo:w.heap.size<w0.heap.size:=p0.lt
 have hlv:w.heap.size+1<w0.heap.size:=r0.lt
 go_cut [5] (fun o wx=>∃ A1 c1,o=.slice A1 l1.length c1∧VasR wx (fun q=>S q∨w.heap.size≤q) A1 l1∧Below w0.heap.size w0 wx)
 case first=>
  have KS:=Lib.hid (fun (x:World) (hx:Below w0.heap.size w0 x)=>And.intro (kC hx po3 hlo) (And.intro (kC hx pv0 hlv) (And.intro (kC hx pv1 hlv) (And.intro (kC hx pv2 hlv) (And.intro (kC hx pv3 hlv) (And.intro (kC hx pv4 hlv) (And.intro (kC hx x0 hbo) (And.intro (kC hx x1 hbo) (And.intro (kC hx x2 hbo) (kC hx x3 hbo))))))))))
  have hD:=(Below.refl w0.heap.size w0).drew
  have t_0:=dC po3
  have t_1:=dC pv0
  have t_2:=dC pv1
  have t_3:=dC pv2
  have t_4:=dC pv3
  have t_5:=dC pv4
  have t_6:=dC x0
  have t_7:=dC x1
  have t_8:=dC x2
  have t_9:=dC x3
  go_region_held3 (fun x:World=>x.cell? ⟨w.heap.size,3,none⟩=some (.slice (some ⟨b1,off1,none⟩) 2 bc)∧x.cell? ⟨w.heap.size+1,0,none⟩=some (.int .i64 v.kind)∧x.cell? ⟨w.heap.size+1,1,none⟩=some (.int .i64 v.num)∧x.cell? ⟨w.heap.size+1,2,none⟩=some (.string v.name)∧x.cell? ⟨w.heap.size+1,3,none⟩=some (.slice L v.labels.length lc)∧x.cell? ⟨w.heap.size+1,4,none⟩=some (.slice A v.args.length ac)∧x.cell? ⟨b1,off1,none⟩=some (.int .i64 a.kind)∧x.cell? ⟨b1,off1+1,none⟩=some (.string a.name)∧x.cell? ⟨b1,off1+2,none⟩=some (.int .i64 a.num)∧x.cell? ⟨b1,off1+3,none⟩=some (.slice B1 a.args.length bc1))
   (first | (with_reducible exact KS.out _ hD) | (with_reducible exact KS.out _ hb1) | go_keep)
   (first | (go_at_call 68;(with_reducible refine (HC.out _ (HO.out.up hD) (HV.out.up hD)).mono ?_);rintro e w1 ⟨A1,c1,rfl,h1,h2⟩;have hb1:=hD.trans h2;have HB1:=Lib.hid hb1;have HA1:=Lib.hid (h1.wide (S':=fun q=>S q∨w.heap.size≤q) fun q hq _=>by have e1:=HB0.out.size;rcases hq with (hq | hq) | hq;exact .inl hq.1;exact .inr hq;exact .inr (Nat.le_trans e1 hq));clear h1 h2))
  all_goals go_wp2
  all_goals go_meet
  all_goals exact ⟨A1,c1,rfl,HA1.out,HB1.out⟩
 case rest=>
  obtain ⟨A1,c1,rfl,h1,hb1⟩:=hcut
  have HA1:=Lib.hid h1
  have HB1:=Lib.hid hb1
  clear h1
  by_cases h0:l1.length=0
  ·have hus:=HUS.out
   rw [if_pos h0] at hus
   subst hus
   have hng:¬ (0<l1.length):=by omega
   have hng2:¬ ((l1.length:Int) > 0):=by omega
   have qo3:=kC hb1 po3 hlo
   have qv0:=kC hb1 pv0 hlv
   have qv1:=kC hb1 pv1 hlv
   have qv2:=kC hb1 pv2 hlv
   have qv3:=kC hb1 pv3 hlv
   have qv4:=kC hb1 pv4 hlv
   have z0:=kC hb1 y0 hbo
   have z1:=kC hb1 y1 hbo
   have z2:=kC hb1 y2 hbo
   have z3:=kC hb1 y3 hbo
   have hlo1:w.heap.size<wc.heap.size:=Nat.lt_of_lt_of_le hlo hb1.size
   have hlv1:w.heap.size+1<wc.heap.size:=Nat.lt_of_lt_of_le hlv hb1.size
   have hbo1:b1<wc.heap.size:=Nat.lt_of_lt_of_le hbo hb1.size
   have HO3:=Lib.hid (HO2.out.up hb1)
   have HV3:=Lib.hid (HV.out.up hb1)
   clear hb1 h0
   go_upto_region 4 with fail
   have KS:=Lib.hid (fun (x:World) (hx:Below wc.heap.size wc x)=>And.intro (kC hx qo3 hlo1) (And.intro (kC hx qv0 hlv1) (And.intro (kC hx qv1 hlv1) (And.intro (kC hx qv2 hlv1) (And.intro (kC hx qv3 hlv1) (And.intro (kC hx qv4 hlv1) (And.intro (kC hx z0 hbo1) (And.intro (kC hx z1 hbo1) (And.intro (kC hx z2 hbo1) (kC hx z3 hbo1))))))))))
   have hD:=(Below.refl wc.heap.size wc).drew
   have t_0:=dC qo3
   have t_1:=dC qv0
   have t_2:=dC qv1
   have t_3:=dC qv2
   have t_4:=dC qv3
   have t_5:=dC qv4
   have t_6:=dC z0
   have t_7:=dC z1
   have t_8:=dC z2
   have t_9:=dC z3
   go_region_held3 (fun x:World=>x.cell? ⟨w.heap.size,3,none⟩=some (.slice (some ⟨b1,off1,none⟩) 2 bc)∧x.cell? ⟨w.heap.size+1,0,none⟩=some (.int .i64 v.kind)∧x.cell? ⟨w.heap.size+1,1,none⟩=some (.int .i64 v.num)∧x.cell? ⟨w.heap.size+1,2,none⟩=some (.string v.name)∧x.cell? ⟨w.heap.size+1,3,none⟩=some (.slice L v.labels.length lc)∧x.cell? ⟨w.heap.size+1,4,none⟩=some (.slice A v.args.length ac)∧x.cell? ⟨b1,off1+4,none⟩=some (.int .i64 b.kind)∧x.cell? ⟨b1,off1+5,none⟩=some (.string b.name)∧x.cell? ⟨b1,off1+6,none⟩=some (.int .i64 b.num)∧x.cell? ⟨b1,off1+7,none⟩=some (.slice B2 b.args.length bc2))
    (first | (with_reducible exact KS.out _ hD) | (with_reducible exact KS.out _ hb2) | go_keep)
    (first | (go_at_call 68;(with_reducible refine (HC2.out _ (HO3.out.up hD) (HV3.out.up hD)).mono ?_);rintro e w1 ⟨A2,c2,rfl,h3,h4⟩;have hb2:=hD.trans h4;have HB2:=Lib.hid hb2;have HA2:=Lib.hid (h3.wide (S':=fun q=>S q∨w.heap.size≤q) fun q hq _=>by have e1:=HB0.out.size;have e2:=HB1.out.size;rcases hq with (hq | hq) | hq;exact .inl hq.1;exact .inr hq;exact .inr (Nat.le_trans e1 (Nat.le_trans e2 hq)));clear h3 h4))
   all_goals go_wp2
   all_goals go_ret
   all_goals exact ⟨A2,c2,rfl,HA2.out,HB0.out.trans ((HB1.out.trans (HB2.out.mono HB1.out.size)).mono HB0.out.size)⟩
  ·have hus:=HUS.out
   rw [if_neg h0] at hus
   subst hus
   have hng:0<us.length:=by omega
   have hng2:(us.length:Int) > 0:=by omega
   clear hb1 h0
   go_wp2
   go_ret
   exact ⟨A1,c1,rfl,HA1.out,HB0.out.trans (HB1.out.mono HB0.out.size)⟩
set_option maxHeartbeats 4000000 in
theorem fociOf_else (n:Int) (nm:ByteArray) (a b:Ot) (s t:Ty) (kd:Int) (v:Va) (B:Option Addr) (bc:Nat) (vv:Value) (w:World) (S:Nat→Prop) (hf:Fit (.mk 13 n nm [a,b]) s t kd v) (ho:OtAt w w.heap.size (.agg #[.int .i64 13,.string nm,.int .i64 n,.slice B 2 bc]) (.mk 13 n nm [a,b])) (hv:VaR w S vv v) (ha1:FociOne a) (hb1':FociOne b):
  Calls Tryz.prog 68 #[.agg #[.int .i64 13,.string nm,.int .i64 n,.slice B 2 bc],vv] w (VasPost S (fociO (.mk 13 n nm [a,b]) v) w):=by
 obtain ⟨L,lc,A,ac,rfl,hnm,hln,hlz,hl,ha⟩:=hv.open
 obtain ⟨hb0,p0,r0,hs0⟩:=boxes2 w 30 41 #[.int .i64 13,.string nm,.int .i64 n,.slice B 2 bc] #[.int .i64 v.kind,.int .i64 v.num,.string v.name,.slice L v.labels.length lc,.slice A v.args.length ac]
 have hv0:=((hv.wide (S':=fun b=>(S b∧b<w.heap.size)∨w.heap.size≤b) fun b hb hl=>.inl ⟨hb,hl⟩).up hb0)
 have ha0:=((ha.wide (S':=fun b=>(S b∧b<w.heap.size)∨w.heap.size≤b) fun b hb hl=>.inl ⟨hb,hl⟩).up hb0)
 have ho0:=ho.up hb0
 have HB0:=Lib.hid hb0
 have hszv:=hf.szv
 have hsze:=szVa_eq v
 have hszl:=szVas_len v.args
 have HC:=Lib.hid (fun W (h:OtAt W W.heap.size (.agg #[.int .i64 13,.string nm,.int .i64 n,.slice B 2 bc]) (.mk 13 n nm [a,b])) (h2:VaR W (fun b=>(S b∧b<w.heap.size)∨w.heap.size≤b) (.agg #[.int .i64 v.kind,.int .i64 v.num,.string v.name,.slice L v.labels.length lc,.slice A v.args.length ac]) v)=>fociElse_any n nm a b s t kd v B bc _ W _ hf h h2 ha1 hb1')
 have HO:=Lib.hid ho0
 have HV:=Lib.hid hv0
 obtain ⟨us,hus2⟩:∃ us,us=fociO (.mk 13 n nm [a,b]) v:=⟨_,rfl⟩
 rw [← hus2] at HC ⊢
 clear hf ho hv ha ha0 hv0 ho0 hb0 hl hlz hus2 ha1 hb1'
 go_enter Tryz.func68,Tryz.ntmps68
 go_upto_region 1 with fail
 generalize (w.alloc (.cells #[.int .i64 13,.string nm,.int .i64 n,.slice B 2 bc] 30)).alloc (.cells #[.int .i64 v.kind,.int .i64 v.num,.string v.name,.slice L v.labels.length lc,.slice A v.args.length ac] 41)=w0 at *
 have HZ:=Lib.hid hs0
 clear hs0
 obtain ⟨po0,po1,po2,po3⟩:=p0.c4
 obtain ⟨pv0,pv1,pv2,pv3,pv4⟩:=r0.c5
 clear p0 r0
 go_wp2_with fail
 refine (HC.out _ HO.out HV.out).mono ?_
 rintro e w1 ⟨A1,c1,rfl,h1,h2⟩
 have HP:=Lib.hid (VasPost.up0 ⟨A1,c1,rfl,h1,h2⟩ HB0.out)
 clear h1 h2
 go_wp2
 go_ret
 exact HP.out
theorem fociOne_any (o:Ot):FociOne o:=by
 induction o using Ot.ind with
 | h k n nm ts ih=>
  intro s t kd v ov vv w S hf ho hv
  obtain ⟨B,bc,rfl,_⟩:=ho.open
  simp only [Ot.kind,Ot.num,Ot.name,Ot.args] at ho ⊢
  by_cases e11:k=11
  ·subst e11
   obtain ⟨a,rfl,_⟩:=form_one hf.form rfl
   exact fociOf_map n nm a s t kd v B bc vv w S hf ho hv (ih 0 (by simp))
  by_cases e12:k=12
  ·subst e12
   obtain ⟨a,b,rfl,_,_⟩:=form_two hf.form (.inl rfl)
   exact fociOf_then n nm a b s t kd v B bc vv w S hf ho hv (ih 0 (by simp)) (ih 1 (by simp))
  by_cases e13:k=13
  ·subst e13
   obtain ⟨a,b,rfl,_,_⟩:=form_two hf.form (.inr rfl)
   exact fociOf_else n nm a b s t kd v B bc vv w S hf ho hv (ih 0 (by simp)) (ih 1 (by simp))
  exact fociOf_leaf k n nm ts s t kd v B bc vv w S ⟨e11,e12,e13⟩ hf ho hv
end
end Go.Proofs.YtfnblkcmcfofoaaGreatDoor
