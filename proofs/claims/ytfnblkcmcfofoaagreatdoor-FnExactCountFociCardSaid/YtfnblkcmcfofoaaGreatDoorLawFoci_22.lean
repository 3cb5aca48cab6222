/- Lemmas: FociA. -/
import Derived.Test.YtfnblkcmcfofoaaGreatDoorLawFoci_21

namespace Go.Proofs.YtfnblkcmcfofoaaGreatDoor
set_option maxRecDepth 100000
set_option linter.unusedSimpArgs false
open Go.RowKit
open Go.Sort (putRowK putRow mapBlock HoldsK size_flatK get_flatK holdsK_putRowK holdsK_ahead)
attribute [local go_sem ↓] Go.wp_at_zero Go.wp_at_succ
theorem names_ne {a b:ByteArray} (h:a≠b):(a.toList == b.toList)=false:=by
 rw [beq_eq_false_iff_ne,ByteArray.toList_eq,ByteArray.toList_eq]
 intro e
 exact h (ByteArray.ext (Array.toList_inj.1 e))
set_option maxHeartbeats 1000000 in
theorem fociCase_any (v:Va) (nm:ByteArray) (vv:Value) (w:World) {S:Nat→Prop} {us:List Va} (hv:VaR w S vv v) (hus:us=if v.name=nm then v.args else []):
  Calls Tryz.prog 122 #[vv,.string nm] w (VasPost S us w):=by
 obtain ⟨L,lc,A,ac,rfl,_,_,_,_,ha⟩:=hv.open
 obtain ⟨hb0,p0,hs0⟩:=boxes1 w 41 #[.int .i64 v.kind,.int .i64 v.num,.string v.name,.slice L v.labels.length lc,.slice A v.args.length ac]
 have HA:=Lib.hid ((ha.up hb0).wide (S':=fun b=>S b∨w.heap.size≤b) fun b hb _=>.inl hb)
 have HB:=Lib.hid hb0
 clear ha hv hb0 p0 hs0
 go_enter Tryz.func122,Tryz.ntmps122
 by_cases he:v.name=nm
 ·have hc:(v.name.toList == nm.toList)=true:=by simp [he]
  rw [if_pos he] at hus
  subst hus
  clear he
  go_wp2
  go_ret
  exact ⟨A,ac,rfl,HA.out,HB.out⟩
 ·have hc:(v.name.toList == nm.toList)=false:=names_ne he
  rw [if_neg he] at hus
  subst hus
  clear he
  go_wp2
  go_ret
  exact ⟨none,0,rfl,vasR_empty,HB.out⟩
def atV (l:List Va) (n:Int):List Va:=if n<l.length then (match l[n.toNat]? with | some x=>[x] | none=>[]) else []
set_option maxHeartbeats 1000000 in
theorem fociAt_any (v:Va) (n:Int) (vv:Value) (w:World) {S:Nat→Prop} {us:List Va} (hv:VaR w S vv v) (h0:0≤n) (hus:us=atV v.args n):
  Calls Tryz.prog 123 #[vv,.int .i64 n] w (VasPost S us w):=by
 obtain ⟨L,lc,A,ac,rfl,_,_,_,_,ha⟩:=hv.open
 obtain ⟨hb0,p0,hs0⟩:=boxes1 w 41 #[.int .i64 v.kind,.int .i64 v.num,.string v.name,.slice L v.labels.length lc,.slice A v.args.length ac]
 have ha0:=ha.up hb0
 have HB:=Lib.hid hb0
 have hm:=ha.1
 unfold maxLen at hm
 go_enter Tryz.func123,Tryz.ntmps123
 by_cases hn:n<v.args.length
 ·unfold atV at hus
  obtain ⟨k,rfl⟩:=Int.eq_ofNat_of_zero_le h0
  have hk:k<v.args.length:=by omega
  rw [if_pos hn,show (k:Int).toNat=k by omega,List.getElem?_eq_getElem hk] at hus
  simp only at hus
  subst hus
  obtain ⟨b,off,M,mc,C,cc,rfl,hSb,hbl,e0,e1,e2,e3,e4,ht⟩:=ha0.elem k hk
  have HT:=Lib.hid ht
  clear ha ha0 hv hb0 p0 ht
  go_wp2
  go_ret
  refine ⟨some ⟨(w.alloc (.cells #[.int .i64 v.kind,.int .i64 v.num,.string v.name,.slice L v.labels.length lc,.slice (some ⟨b,off,none⟩) v.args.length ac] 41)).heap.size,0,none⟩,1,by simp,(VasR.one HT.out).wide fun q hq _=>hq.imp id fun h=>?_,?_⟩
  ·have:=HB.out.size
   omega
  ·exact HB.out.alloc HB.out.size _
 ·unfold atV at hus
  rw [if_neg hn] at hus
  subst hus
  clear ha ha0 hv hb0 p0 hs0
  go_wp2
  go_ret
  exact ⟨none,0,rfl,vasR_empty,HB.out⟩
set_option maxHeartbeats 1000000 in
theorem vclone_any (ts:List Va) (A:Option Addr) (c:Nat) (w:World) {S:Nat→Prop} (ha:VasR w S A ts) (hn:ts.length≤1048576):
  Calls Tryz.prog 164 #[.slice A ts.length c] w (fun e w'=>∃ v',e=.returned v'∧GotV w' w.heap.size S v' ts∧Below w.heap.size w w'):=by
 have q22:∀ (w:World) (a:Option Addr) (n c:Nat),(binOp .eql 39 (.slice a n c) (.slice none 0 0)).run Tryz.prog w=.ok (.bool a.isNone) w:=fun w a n c=>Lib.run_eql_slice_nil w _ _ a n c 0 0 Tryz.underlying39
 cases A with
 | none=>
  have h0:ts=[]:=by
   cases ts with
   | nil=>rfl
   | cons t r=>
    obtain ⟨b,off,_,_,_,_,e,_⟩:=ha.elem 0 (by simp)
    cases e
  subst h0
  clear ha
  go_enter Tryz.func164,Tryz.ntmps164
  go_wp2
  go_ret
  exact ⟨_,rfl,GotV.start _ _ _,Below.refl _ _⟩
 | some ad=>
  have HA:=Lib.hid ha
  clear ha
  have hb1:Below w.heap.size w (w.alloc (.cells #[] 41)):=(Below.refl _ _).alloc (Nat.le_refl _) _
  have hG:GotV (w.alloc (.cells #[] 41)) w.heap.size S (.slice (some ⟨w.heap.size,0,none⟩) 0 0) []:=GotV.lit (World.ownsRow_lit w #[] 0 (Nat.le_refl _) (Nat.zero_le _) rfl)
  have hv:VasR (w.alloc (.cells #[] 41)) (fun b=>S b∧(Value.slice (some ⟨w.heap.size,0,none⟩) 0 0).ownBlock≠some b) (some ad) ts:=((HA.out.wide (S':=fun b=>S b∧b<w.heap.size) fun b hb hl=>⟨hb,hl⟩).up hb1).wide fun b hb _=>⟨hb.1,fun e=>by have h1:=hb.2;have h2:w.heap.size=b:=Option.some.inj e;omega⟩
  go_enter Tryz.func164,Tryz.ntmps164
  go_wp2_with (at_builtin;refine wpList_append_got (base:=w.heap.size) (S:=S) (ts:=[]) (us:=ts) rfl (.tmp 5) (.tmp 6) rfl _ rfl hG (some ad) ts.length c rfl rfl hv (by simp;omega) (by simp) ?_;intro v1 w1 hG1 hg1)
  have HG:=Lib.hid hG1
  have HB:=Lib.hid (hb1.grown hg1 (by simp) (fun q hq=>by have h2:w.heap.size=q:=Option.some.inj hq;omega))
  clear hG1 hg1 hv hG hb1
  go_wp2
  go_ret
  exact ⟨v1,rfl,by simpa using HG.out,HB.out⟩
theorem putRowK_below {α:Type} [Inhabited α] {enc:α→List Value} {k:Nat} {w:World} {B n blk off:Nat} {d:Array α} (hB:B≤blk):Below B w (putRowK enc k (Go.Sort.ahead w n) blk off d):=
 ⟨rfl,rfl,rfl,by simp [putRowK,putRow,mapBlock,Go.Sort.ahead],fun q hq=>by
  have hne:blk≠q:=by omega
  simp [putRowK,putRow,mapBlock,Go.Sort.ahead,Array.getElem?_modify,hne]⟩
def encV (vs:Nat→Value) (n i:Nat):List Value:=if i<n then (List.range 5).map fun j=>(partAt (vs i) j).getD (.bool false) else List.replicate 5 (.bool false)
theorem encV_len (vs:Nat→Value) (n i:Nat):(encV vs n i).length=5:=by
 unfold encV
 split<;>simp
theorem encV_at (vs:Nat→Value) (n i j:Nat) (hi:i<n) (hj:j<5):(encV vs n i)[j]! = (partAt (vs i) j).getD (.bool false):=by
 unfold encV
 rw [if_pos hi]
 simp [hj]
theorem range_at (n i:Nat) (h:i<n):(Array.range n)[i]! = i:=by simp [h]
theorem range_rev (n i:Nat) (h:i<n):(Array.range n).reverse[i]! = n - 1 - i:=by
 rw [getElem!_pos _ i (by simpa using h)]
 simp
theorem VaR.parts {w:World} {S:Nat→Prop} {x:Value} {t:Va} (h:VaR w S x t) (j:Nat) (hj:j<5):∃ u,partAt x j=some u∧u.oneCell'=true:=by
 obtain ⟨L,lc,A',ac,rfl,_⟩:=h.open
 have:j=0∨j=1∨j=2∨j=3∨j=4:=by omega
 rcases this with rfl | rfl | rfl | rfl | rfl<;>exact ⟨_,rfl,rfl⟩
theorem vreverse_any {w:World} {base:Nat} {S:Nat→Prop} {v:Value} {ts:List Va} (h:GotV w base S v ts) (hn:ts.length≤1048576):
  Calls Tryz.prog 165 #[v] w (fun e w'=>e=.returned (.tuple #[])∧(∃ A c,v=.slice A ts.length c∧VasR w' (fun b=>S b∨base≤b) A ts.reverse)∧Below base w w'):=by
 obtain ⟨xs,vs,h⟩:=h
 rcases h.own.2 with ⟨hv,h2⟩ | ⟨g,cap,cur,hv,h2,h3,h4,h5,h6,h7⟩
 ·subst hv
  have h0:ts=[]:=List.length_eq_zero_iff.1 h2
  subst h0
  refine (AnyQ.slices_Reverse_empty Tryz.laysVReverse none 0 w).mono ?_
  rintro e w' ⟨rfl,rfl⟩
  exact ⟨rfl,⟨none,0,rfl,vasR_empty⟩,Below.refl _ _⟩
 ·subst hv
  have hgl:=(h.own.lt g rfl).2
  have hsome:∀ i,i<ts.length→∀ j,j<5→∃ u,partAt (vs i) j=some u∧u.oneCell'=true:=fun i hi j hj=>(h.kids i hi).parts j hj
  have h1:∀ x,∀ u ∈ encV vs ts.length x,u.oneCell'=true:=fun x u hu=>by
   unfold encV at hu
   split at hu
   ·rename_i hx
    obtain ⟨j,hj,rfl⟩:=List.mem_map.1 hu
    obtain ⟨y,hy,hy2⟩:=hsome x hx j (by simpa using hj)
    rw [hy]
    exact hy2
   ·simp at hu
    rw [hu]
    rfl
  have hH:HoldsK (encV vs ts.length) 5 w g 0 (Array.range ts.length):=by
   intro t ht
   rw [size_flatK] at ht
   have ht':t<ts.length * 5:=by simpa using ht
   rw [get_flatK _ _ _ t ht,range_at _ _ (by omega),encV_at _ _ _ _ (by omega) (Nat.mod_lt _ (by omega)),Nat.zero_add]
   refine ⟨?_,frozen_of_row w g t cur 41 h3⟩
   rw [cell_of_row w g t cur 41 (0,0) h3]
   have hc:=(h.cells (t / 5) (by omega) (t % 5) (Nat.mod_lt _ (by omega))).2
   rw [show t / 5 * 5+t % 5=t by omega,← h7,List.getElem?_take,if_pos (by omega)] at hc
   obtain ⟨u,hu,_⟩:=hsome (t / 5) (by omega) (t % 5) (Nat.mod_lt _ (by omega))
   rw [hu] at hc ⊢
   simpa using hc
  have hz:ts.length=(Array.range ts.length).size:=by simp
  have hC:=AnyQ.slices_Reverse Tryz.laysVReverse 5 Tryz.isAgg41 Tryz.sizeOf41 (encV vs ts.length) (encV_len vs ts.length) h1 g 0 cap (Array.range ts.length) w hH (by simp;omega)
  rw [← hz] at hC
  refine hC.mono ?_
  rintro e w' ⟨rfl,n,rfl⟩
  have hH2:=holdsK_putRowK (encV vs ts.length) 5 (Go.Sort.ahead w n) g 0 (Array.range ts.length) (Array.range ts.length).reverse (holdsK_ahead _ _ w n g 0 _ hH) (by simp)
  have hB:∀ B,B≤g→Below B w (putRowK (encV vs ts.length) 5 (Go.Sort.ahead w n) g 0 (Array.range ts.length).reverse):=fun B hB=>putRowK_below hB
  have hoth:∀ q,q≠g→(putRowK (encV vs ts.length) 5 (Go.Sort.ahead w n) g 0 (Array.range ts.length).reverse).heap[q]?=w.heap[q]?:=fun q hq=>by
   simp [putRowK,putRow,mapBlock,Go.Sort.ahead,Array.getElem?_modify,Ne.symm hq]
  have hsz:=(hB g (Nat.le_refl _)).size
  generalize putRowK (encV vs ts.length) 5 (Go.Sort.ahead w n) g 0 (Array.range ts.length).reverse=w' at *
  refine ⟨rfl,⟨some ⟨g,0,none⟩,cap,rfl,by simp [maxLen];omega,fun i=>vs (ts.length - 1 - i),fun i hi=>?_,fun i hi=>?_⟩,hB base h2⟩
  ·have hi':i<ts.length:=by simpa using hi
   refine ⟨g,0,rfl,.inr h2,Nat.lt_of_lt_of_le hgl hsz,fun j hj=>?_⟩
   rw [(hH2.cell (i:=i) (c:=j) (by simpa using hi') hj).1,range_rev _ _ hi',encV_at _ _ _ _ (by omega) hj]
   obtain ⟨u,hu,_⟩:=hsome (ts.length - 1 - i) (by omega) j hj
   rw [hu]
   rfl
  ·have hi':i<ts.length:=by simpa using hi
   rw [List.getElem_reverse]
   exact ((h.kids (ts.length - 1 - i) (by omega)).keep (fun b hb _=>hoth b fun e=>hb.2 (by rw [e];rfl)) hsz).wide fun b hb _=>.inl hb.1
set_option maxHeartbeats 2000000 in
theorem turned_any (v:Va) (vv:Value) (w:World) {S:Nat→Prop} (hv:VaR w S vv v) (hsz:v.args.length≤1048576):
  Calls Tryz.prog 124 #[vv] w (fun e w'=>∃ A c,e=.returned (.agg #[.int .i64 5,.int .i64 0,.string ⟨#[]⟩,.slice none 0 0,.slice A v.args.length c])∧VasR w' (fun b=>S b∨w.heap.size≤b) A v.args.reverse∧Below w.heap.size w w'):=by
 obtain ⟨L,lc,A,ac,rfl,_,_,_,_,ha⟩:=hv.open
 obtain ⟨hb0,p0,r0,hs0⟩:=boxes2 w 41 41 #[.int .i64 v.kind,.int .i64 v.num,.string v.name,.slice L v.labels.length lc,.slice A v.args.length ac] #[.int .i64 0,.int .i64 0,.string ⟨#[]⟩,.slice none 0 0,.slice none 0 0]
 have HC:=Lib.hid (vclone_any v.args A ac _ ((ha.wide (S':=fun b=>S b∧b<w.heap.size) fun b hb hl=>⟨hb,hl⟩).up hb0) hsz)
 have HB0:=Lib.hid hb0
 have HR:=Lib.hid r0
 clear ha hv hb0 p0 r0
 go_enter Tryz.func124,Tryz.ntmps124
 go_wp2_with fail
 generalize (w.alloc (.cells #[.int .i64 v.kind,.int .i64 v.num,.string v.name,.slice L v.labels.length lc,.slice A v.args.length ac] 41)).alloc (.cells #[.int .i64 0,.int .i64 0,.string ⟨#[]⟩,.slice none 0 0,.slice none 0 0] 41)=w0 at *
 have HZ:=Lib.hid hs0
 clear hs0
 refine HC.out.mono ?_
 rintro e w1 ⟨v1,rfl,hG,hb1⟩
 have HV:=Lib.hid (vreverse_any hG hsz)
 have HB1:=Lib.hid hb1
 clear hG hb1
 go_wp2_with fail
 refine HV.out.mono ?_
 rintro e w2 ⟨rfl,⟨A2,c2,rfl,hA2⟩,hb2⟩
 have hb2':=HB1.out.trans hb2
 have r2:=HR.out.below hb2' HR.out.lt
 have HB2:=Lib.hid (HB0.out.trans (hb2'.mono HB0.out.size))
 have HA2:=Lib.hid hA2
 obtain ⟨d0,d1,d2,d3,d4⟩:=r2.c5
 obtain ⟨f0,f1,f2,f3,f4⟩:=r2.f5
 clear hA2 hb2 hb2' r2
 go_wp2
 refine bodyPost_ret (v:=.agg #[.int .i64 5,.int .i64 0,.string ⟨#[]⟩,.slice none 0 0,.slice A2 v.args.length c2]) (by simp [results,Tryz.results124,go_sem,d0,d1,d2,d3,d4]) rfl ⟨_,_,rfl,?_,?_⟩
 ·have hzz:=HZ.out
  have hk':∀ q,q≠w.heap.size+1→(((((w2.setCell ⟨w.heap.size+1,0,none⟩ (.int .i64 5)).setCell ⟨w.heap.size+1,1,none⟩ (.int .i64 0)).setCell ⟨w.heap.size+1,2,none⟩ (.string ⟨#[]⟩)).setCell ⟨w.heap.size+1,3,none⟩ (.slice none 0 0)).setCell ⟨w.heap.size+1,4,none⟩ (.slice A2 v.args.length c2)).heap[q]?=w2.heap[q]?:=fun q hq=>by
   rw [Below.heap_setCell _ _ _ _ hq,Below.heap_setCell _ _ _ _ hq,Below.heap_setCell _ _ _ _ hq,Below.heap_setCell _ _ _ _ hq,Below.heap_setCell _ _ _ _ hq]
  exact (HA2.out.keep (fun b hb _=>hk' b (by rcases hb with hb | hb<;>omega)) (by simp [World.setCell])).wide fun b hb _=>hb.imp (fun h=>h.1) fun h=>by omega
 ·exact ((((HB2.out.setCell (p:=⟨w.heap.size+1,0,none⟩) (Nat.le_succ _) _).setCell (p:=⟨w.heap.size+1,1,none⟩) (Nat.le_succ _) _).setCell (p:=⟨w.heap.size+1,2,none⟩) (Nat.le_succ _) _).setCell (p:=⟨w.heap.size+1,3,none⟩) (Nat.le_succ _) _).setCell (p:=⟨w.heap.size+1,4,none⟩) (Nat.le_succ _) _
end Go.Proofs.YtfnblkcmcfofoaaGreatDoor
