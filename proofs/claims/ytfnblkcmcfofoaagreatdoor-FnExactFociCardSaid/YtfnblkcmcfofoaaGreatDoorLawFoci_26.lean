/- Lemmas: FociB, FociC. -/
import Derived.Test.YtfnblkcmcfofoaaGreatDoorLawFoci_21
import Derived.Test.YtfnblkcmcfofoaaGreatDoorLawFoci_22
import Derived.Test.YtfnblkcmcfofoaaGreatDoorLawFoci_25
import Derived.Lib.Hide

namespace Go.Proofs.YtfnblkcmcfofoaaGreatDoor
section
set_option maxRecDepth 100000
set_option linter.unusedSimpArgs false
open Go.RowKit
attribute [local go_sem ↓] Go.wp_at_zero Go.wp_at_succ
def FociOne (o:Ot):Prop:=∀ (s t:Ty) (kd:Int) (v:Va) (ov vv:Value) (w:World) (S:Nat→Prop),Fit o s t kd v→OtAt w w.heap.size ov o→VaR w S vv v→Calls Tryz.prog 68 #[ov,vv] w (VasPost S (fociO o v) w)
structure GotL (w:World) (base:Nat) (S:Nat→Prop) (v:Value) (us:List (List Va)) (xs:List Value):Prop where
 own:w.ownsRow base 39 1 v us.length xs
 kids:∀ i,(h:i<us.length)→∃ A c,xs[i]?=some (.slice A us[i].length c)∧VasR w (fun b=>S b∧v.ownBlock≠some b) A us[i]
theorem GotL.start (w:World) (base:Nat) (S:Nat→Prop):GotL w base S (.slice none 0 0) [] []:=⟨World.ownsRow_nil w base _ 1,fun _ h=>absurd h (Nat.not_lt_zero _)⟩
theorem GotL.form {w:World} {base:Nat} {S:Nat→Prop} {v:Value} {us:List (List Va)} {xs:List Value} (h:GotL w base S v us xs):∃ A c,v=.slice A us.length c:=by
 rcases h.own.2 with ⟨h1,h2⟩ | ⟨g,cap,cur,h1,_⟩
 ·exact ⟨none,0,by rw [h1,h2]⟩
 ·exact ⟨_,_,h1⟩
theorem own_keepN {w w':World} {base k z:Nat} {e:TypeId} {v:Value} {xs:List Value} (h:w.ownsRow base e z v k xs) (hk:∀ g,v.ownBlock=some g→w'.heap[g]?=w.heap[g]?):w'.ownsRow base e z v k xs:=by
 refine ⟨h.1,?_⟩
 rcases h.2 with h2 | ⟨g,cap,cur,h1,h2,h3,h4⟩
 ·exact .inl h2
 ·exact .inr ⟨g,cap,cur,h1,h2,(hk g (by rw [h1];rfl)).trans h3,h4⟩
theorem GotL.below {w w':World} {base:Nat} {S:Nat→Prop} {v:Value} {us:List (List Va)} {xs:List Value} (h:GotL w base S v us xs) (hb:Below w.heap.size w w'):GotL w' base S v us xs:=
 ⟨own_keepN h.own fun g hg=>hb.block g (h.own.lt g hg).2,fun i hi=>by obtain ⟨A,c,h1,h2⟩:=h.kids i hi;exact ⟨A,c,h1,h2.up hb⟩⟩
theorem GotL.step {w1 w2:World} {base:Nat} {S:Nat→Prop} {v v':Value} {us:List (List Va)} {u:List Va} {xs:List Value} {A:Option Addr} {c:Nat} (h:GotL w1 base S v us xs) (hu:VasR w1 (fun b=>S b∧v.ownBlock≠some b) A u)
  (hown:w2.ownsRow base 39 1 v' (us.length+1) (xs++[.slice A u.length c])) (hg:w1.grownBy w2 v.ownBlock) (hat:∀ g,v'.ownBlock=some g→v.ownBlock=some g∨w1.heap.size≤g):GotL w2 base S v' (us++[u]) (xs++[.slice A u.length c]):=by
 have hxl:xs.length=us.length:=by simpa using h.own.1
 have hkeep:∀ (x:Option Addr) (t:List Va),VasR w1 (fun b=>S b∧v.ownBlock≠some b) x t→VasR w2 (fun b=>S b∧v'.ownBlock≠some b) x t:=fun x t hx=>by
  have h1:VasR w1 (fun b=>(S b∧v.ownBlock≠some b)∧b<w1.heap.size) x t:=hx.wide fun b hb hl=>⟨hb,hl⟩
  exact (h1.keep (w':=w2) (fun b hb hl=>hg.block b hl fun e=>hb.1.2 e.symm) hg.size).wide fun b hb _=>⟨hb.1.1,fun e=>(hat b e).elim hb.1.2 fun hge=>by have:=hb.2;omega⟩
 refine ⟨by rw [List.length_append];exact hown,fun i hi=>?_⟩
 rw [List.length_append] at hi
 by_cases hlt:i<us.length
 ·obtain ⟨A',c',h1,h2⟩:=h.kids i hlt
  refine ⟨A',c',?_,?_⟩
  ·rw [List.getElem?_append_left (by omega),List.getElem_append_left hlt]
   exact h1
  ·rw [List.getElem_append_left hlt]
   exact hkeep _ _ h2
 ·have hi':i=us.length:=by simp at hi;omega
  subst hi'
  refine ⟨A,c,?_,?_⟩
  ·rw [List.getElem?_append_right (by omega),hxl]
   simp
  ·rw [List.getElem_append_right (by omega)]
   simp only [Nat.sub_self,List.getElem_cons_zero]
   exact hkeep _ _ hu
theorem infoVals:(Tryz.prog.info? 39).map (fun i=>(i.zero,i.size,i.bytes))=some (some (.slice none 0 0),1,24):=by kernel_rfl
theorem wpList_append_got1 {w:World} {base:Nat} {S:Nat→Prop} {us:List (List Va)} {u:List Va} {xs:List Value} {ops:Array Oper} {rest:List Oper} {o:Oper} {a:Act} {Q:Exit→Act→World→Prop} (hgd:o.guard=none) (s x:Operand)
  (ho:o.op=.call { callee:=.builtin .append,args:=#[s,x],argTypes:=#[189,189] }) (v:Value) (hs:a.eval s=v) (h:GotL w base S v us xs) (A:Option Addr) (g c m m1:Nat) (hm:u.length=m) (hx:a.eval x=.slice (some ⟨g,0,none⟩) 1 m1) (hc:w.cell? ⟨g,0,none⟩=some (.slice A m c)) (hu:VasR w (fun b=>S b∧v.ownBlock≠some b) A u) (hn:us.length+1≤1073741824) (hbase:base≤w.heap.size)
  (hK:∀ v' w',GotL w' base S v' (us++[u]) (xs++[.slice A u.length c])→w.grownBy w' v.ownBlock→wpList Tryz.prog ops Q rest (a.put o.dst v') w'):wpList Tryz.prog ops Q (o::rest) a w:=by
 refine wpList_plain hgd fun K hK2=>?_
 subst hm
 obtain ⟨i1,hi1,hy0,hy1,hy2⟩:=info_parts infoVals
 obtain ⟨v',w',hr,hown,hgrow,hat⟩:=append_cells_at w base 189 o.type 39 i1 (.slice none 0 0) 1 24 Tryz.underlying189 hi1 hy0 hy1 hy2 rfl (by decide) v us.length xs h.own (some ⟨g,0,none⟩) 1 m1 [.slice A u.length c] rfl (.inr ⟨_,rfl,fun j x hj=>by
  have h0:j=0:=by
   have:=(List.getElem?_eq_some_iff.1 hj).1
   simp at this
   exact this
  subst h0
  rw [WideShapes.add_plain,Nat.zero_add]
  simp at hj
  rw [← hj]
  exact hc⟩) (by intro x hx;simp at hx;subst hx;rfl) (by unfold maxLen;omega) (by omega) hbase
 unfold Oper.wp execOp
 simp only [ho,resolve,invoke,builtin,Sem.run_bind,Sem.run_pure,Result.andThen_ok,List.map_toArray,List.map_cons,List.map_nil,hs,hx,hr]
 exact hK2 _ _ (hK v' w' (h.step hu hown hgrow hat) hgrow)
set_option maxHeartbeats 1000000 in
theorem fociIn_any (o:Ot) (ho:FociOne o) (s t:Ty) (kd:Int) (v:Va) (vv:Value) (fb:Nat) (B:Option Addr) (bc:Nat) (w:World) (S:Nat→Prop) (hf:Fit o s t kd v) (hv:VaR w S vv v) (hw:Whole1 w fb 30 #[.int .i64 o.kind,.string o.name,.int .i64 o.num,.slice B o.args.length bc]) (ha:OtAt w w.heap.size (.agg #[.int .i64 o.kind,.string o.name,.int .i64 o.num,.slice B o.args.length bc]) o):
  Calls Tryz.prog 166 #[vv,.pointer (some ⟨fb,0,none⟩)] w (VasPost S (fociO o v) w):=by
 obtain ⟨L,lc,A,ac,rfl,_⟩:=hv.open
 obtain ⟨hb0,p0,hs0⟩:=boxes1 w 41 #[.int .i64 v.kind,.int .i64 v.num,.string v.name,.slice L v.labels.length lc,.slice A v.args.length ac]
 have HC:=Lib.hid (ho s t kd v _ _ _ _ hf (ha.up hb0) ((hv.wide (S':=fun b=>S b∧b<w.heap.size) fun b hb hl=>⟨hb,hl⟩).up hb0))
 have hfl:=hw.lt
 obtain ⟨q0,q1,q2,q3⟩:=hw.c4
 have HB0:=Lib.hid hb0
 clear hv ha hw hb0 p0 hs0 hf ho
 go_enter Tryz.func166,Tryz.ntmps166
 go_wp2_with fail
 refine HC.out.mono ?_
 rintro e w1 ⟨A1,c1,rfl,hA1,hb1⟩
 have HA1:=Lib.hid hA1
 have HB1:=Lib.hid (HB0.out.trans (hb1.mono HB0.out.size))
 clear hA1 hb1
 go_wp2
 go_ret
 exact ⟨A1,c1,rfl,HA1.out.wide fun b hb _=>hb.imp (fun h=>h.1) fun h=>Nat.le_trans HB0.out.size h,HB1.out⟩
end
section
set_option maxRecDepth 100000
set_option linter.unusedSimpArgs false
open Go.RowKit
attribute [local go_sem ↓] Go.wp_at_zero Go.wp_at_succ
theorem vgrow_any (n:Nat) (w:World) (S:Nat→Prop) (hn:n≤1048576):
  Calls Tryz.prog 192 #[.slice none 0 0,.int .i64 n] w (fun e w'=>∃ v',e=.returned v'∧GotV w' w.heap.size S v' []∧Below w.heap.size w w'):=by
 obtain ⟨i1,hi1,hy0,hy1,hy2⟩:=info_parts infoValue
 by_cases h0:n=0
 ·subst h0
  refine (Any8.slices_Grow_room Tryz.laysVGrow none 0 0 0 w (Nat.le_refl _) (by omega) (by omega) (Nat.le_refl _)).mono ?_
  rintro e w' ⟨rfl,rfl⟩
  exact ⟨_,rfl,GotV.start _ _ _,Below.refl _ _⟩
 ·refine (Any8.slices_Grow_grow Tryz.laysVGrow i1 _ hi1 hy0 (by rw [hy1];decide) none 0 0 n [] w (Nat.le_refl _) (by omega) (by rw [hy2];omega) (by omega) (by rw [hy1];rfl) (fun _=>rfl) (fun a ha=>by cases ha)).mono ?_
  rintro e w' ⟨rfl,rfl⟩
  refine ⟨_,rfl,GotV.lit ?_,(Below.refl _ _).drew.alloc (Nat.le_refl _) _⟩
  refine World.ownsRow_made w.drew _ _ (Nat.le_refl _) (grownCap_le_maxLen w _ _ _ (by unfold maxLen;omega)) ?_
  have hge:∀ T,0+n≤grownCap w (0+n) 0 T:=fun T=>grownCap_ge w (0+n) 0 T
  have h5:(Value.agg #[.int .i64 0,.int .i64 0,.string ⟨#[]⟩,.slice none 0 0,.slice none 0 0]).cells.size=5:=rfl
  have hg:=hge (Tryz.laysVGrow_ren.t 25)
  rw [Nat.zero_add] at hg ⊢
  generalize grownCap w n 0 (Tryz.laysVGrow_ren.t 25)=G at hg ⊢
  simp [Builtin.zeroCells,h5]
  omega
theorem GotL.elem {w:World} {base:Nat} {S:Nat→Prop} {A:Option Addr} {n c:Nat} {us:List (List Va)} {xs:List Value} (h:GotL w base S (.slice A n c) us xs) (i:Nat) (hi:i<us.length):
  ∃ g A' c',A=some ⟨g,0,none⟩∧base≤g∧g<w.heap.size∧w.cell? ⟨g,i,none⟩=some (.slice A' us[i].length c')∧VasR w S A' us[i]:=by
 obtain ⟨A',c',h1,h2⟩:=h.kids i hi
 rcases h.own.2 with ⟨_,h0⟩ | ⟨g,cap,cur,hv,hb,h3,h4,h5,h6,h7⟩
 ·omega
 ·injection hv with hA _ _
  subst hA
  refine ⟨g,A',c',rfl,hb,(h.own.lt g rfl).2,?_,h2.wide fun b hb _=>hb.1⟩
  rw [cell_of_row w g i cur 39 (0,0) h3]
  rw [← h7,List.getElem?_take,if_pos (by omega)] at h1
  simpa using h1
def upTo (us:List (List Va)) (k:Nat):List Va:=(us.take k).flatten
theorem upTo_succ (us:List (List Va)) (k:Nat) (h:k<us.length):upTo us (k+1)=upTo us k++us[k]:=by
 unfold upTo
 rw [List.take_succ_eq_append_getElem h,List.flatten_append]
 simp
theorem upTo_le (us:List (List Va)) (k:Nat):(upTo us k).length≤(upTo us us.length).length:=by
 unfold upTo
 rw [List.take_length]
 conv=>rhs;rw [← List.take_append_drop k us,List.flatten_append,List.length_append]
 omega
set_option maxHeartbeats 4000000 in
theorem concat_any (us:List (List Va)) (xs:List Value) (v:Value) (base:Nat) (S:Nat→Prop) (w:World) (h:GotL w base S v us xs) (hn:us.length≤1048576) (hsum:(upTo us us.length).length≤1048576):
  Calls Tryz.prog 167 #[v] w (VasPost S (upTo us us.length) w):=by
 obtain ⟨A,c,rfl⟩:=h.form
 have HGR:=Lib.hid (vgrow_any (upTo us us.length).length w (fun b=>S b∧b<w.heap.size) hsum)
 go_enter Tryz.func167,Tryz.ntmps167
 go_wp2
 go_loopw [3,11] (fun z i wr=>∃ k:Nat,k≤us.length∧i=.int .i64 k∧z=.int .i64 ((upTo us k).length:Nat)∧wr=w) (fun _ i _=>us.length - (intOf i).toNat)
 case atStart=>exact ⟨0,Nat.zero_le _,by simp,by simp [upTo],by simp⟩
 case round=>
  obtain ⟨k,hk,rfl,rfl,hwr⟩:=hrel
  have hwr':=hwr.symm
  clear hwr
  subst hwr'
  by_cases hlt:k<us.length
  ·obtain ⟨g,A',c',rfl,_,_,hcell,_⟩:=h.elem k hlt
   have hs:=congrArg List.length (upTo_succ us k hlt)
   rw [List.length_append] at hs
   have hle:=upTo_le us (k+1)
   have HS:=Lib.hid hs
   have hb1:((upTo us k).length:Int)+(us[k].length:Int)≤1048576:=by omega
   have hneg:¬ (((upTo us k).length:Int)+(us[k].length:Int)<0):=by omega
   clear hs hle
   go_wp2
   go_roundw
   case rel=>exact ⟨k+1,by omega,by go_num,by rw [HS.out];go_num,trivial⟩
   case measure=>simp [intOf];omega
  ·have hke:k=us.length:=by omega
   subst hke
   have HG:=Lib.hid h
   clear h
   go_wp2_with fail
   refine HGR.out.mono ?_
   rintro e w1 ⟨v1,rfl,hG1,hb1⟩
   have HG1:=Lib.hid hG1
   have HB1:=Lib.hid hb1
   clear hG1 hb1
   go_wp2
   go_loopw [6,27] (fun z i wr=>∃ k:Nat,k≤us.length∧i=.int .i64 k∧GotV wr w.heap.size (fun b=>S b∧b<w.heap.size) z (upTo us k)∧Below w.heap.size w wr) (fun _ i _=>us.length - (intOf i).toNat)
   case atStart=>exact ⟨0,Nat.zero_le _,rfl,HG1.out,HB1.out⟩
   case round=>
    obtain ⟨k,hk,rfl,hga,hb⟩:=hrel
    by_cases hlt2:k<us.length
    ·obtain ⟨g,A',c',rfl,hg1,hg2,hcell0,hv0⟩:=HG.out.elem k hlt2
     have hcell:=kC hb hcell0 hg2
     have hown:=hga.lt
     have hv:VasR wr (fun b=>(S b∧b<w.heap.size)∧u6.ownBlock≠some b) A' us[k]:=((hv0.wide (S':=fun b=>S b∧b<w.heap.size) fun b hb hl=>⟨hb,hl⟩).up hb).wide fun b hb _=>⟨hb,fun e=>by have:=(hown b e).1;have:=hb.2;omega⟩
     have HUS:=Lib.hid (upTo_succ us k hlt2)
     have hle:=upTo_le us (k+1)
     rw [HUS.out,List.length_append] at hle
     have HB:=Lib.hid hb
     have hsz:=hb.size
     clear hb hcell0 hv0
     go_wp2_with (at_builtin;refine wpList_append_got rfl (.tmp 31) (.tmp 32) rfl _ rfl hga A' us[k].length c' rfl rfl hv (by omega) hsz ?_;intro v2 w2 hG2 hg2')
     have HG2:=Lib.hid hG2
     have HB2:=Lib.hid (HB.out.grown hg2' hsz (fun q hq=>(hown q hq).1))
     clear hG2 hg2' hv hga hown
     go_wp2
     go_roundw
     case rel=>exact ⟨k+1,by omega,by go_num,by rw [HUS.out];exact HG2.out,HB2.out⟩
     case measure=>simp [intOf];omega
    ·have hke:k=us.length:=by omega
     subst hke
     obtain ⟨A2,c2,rfl⟩:=hga.form
     have HD:=Lib.hid (hga.done (S':=fun b=>S b∨w.heap.size≤b) (by unfold maxLen;omega) (fun b hb=>.inl hb.1) (fun b hb=>.inr hb))
     have HB:=Lib.hid hb
     clear hga hb
     go_wp2
     go_ret
     exact ⟨A2,c2,rfl,HD.out,HB.out⟩
noncomputable def eachF (o:Ot) (vs:List Va) (k:Nat):List (List Va):=(vs.take k).map (fociO o)
theorem eachF_succ (o:Ot) (vs:List Va) (k:Nat) (h:k<vs.length):eachF o vs (k+1)=eachF o vs k++[fociO o vs[k]]:=by
 unfold eachF
 rw [List.take_succ_eq_append_getElem h,List.map_append]
 rfl
theorem eachF_len (o:Ot) (vs:List Va) (k:Nat) (h:k≤vs.length):(eachF o vs k).length=k:=by
 simp [eachF]
 omega
theorem eachF_all (o:Ot) (vs:List Va):upTo (eachF o vs vs.length) (eachF o vs vs.length).length=vs.flatMap (fociO o):=by
 unfold upTo
 rw [List.take_length]
 simp [eachF,List.flatMap]
set_option maxHeartbeats 4000000 in
theorem mappedFoci_any (o:Ot) (ho:FociOne o) (s t:Ty) (kd:Int) (vs:List Va) (hf:∀ i,(h:i<vs.length)→Fit o s t kd vs[i]) (A:Option Addr) (c:Nat) (fb:Nat) (B:Option Addr) (bc:Nat) (w:World) (S:Nat→Prop) (ha:VasR w S A vs) (hn:vs.length≤1048576)
  (hw:Whole1 w fb 30 #[.int .i64 o.kind,.string o.name,.int .i64 o.num,.slice B o.args.length bc]) (hoa:OtAt w w.heap.size (.agg #[.int .i64 o.kind,.string o.name,.int .i64 o.num,.slice B o.args.length bc]) o):
  Calls Tryz.prog 168 #[.slice A vs.length c,.func (.func 166) #[] #[.pointer (some ⟨fb,0,none⟩)]] w (fun e w'=>∃ v' xs,e=.returned v'∧GotL w' w.heap.size (fun b=>S b∨w.heap.size≤b) v' (eachF o vs vs.length) xs∧Below w.heap.size w w'):=by
 have HF:=Lib.hid hf
 have HW:=Lib.hid hw
 have HO:=Lib.hid hoa
 have HA:=Lib.hid (ha.wide (S':=fun b=>S b∧b<w.heap.size) fun b hb hl=>⟨hb,hl⟩)
 clear hf hw hoa ha
 go_enter Tryz.func168,Tryz.ntmps168
 go_wp2
 go_loopw [5,10] (fun z i wr=>∃ (k:Nat) (xs:List Value),k≤vs.length∧i=.int .i64 k∧GotL wr w.heap.size (fun b=>S b∨w.heap.size≤b) z (eachF o vs k) xs∧Below w.heap.size w wr) (fun _ i _=>vs.length - (intOf i).toNat)
 case atStart=>exact ⟨0,[],Nat.zero_le _,rfl,GotL.start _ _ _,Below.refl _ _⟩
 case round=>
  obtain ⟨k,xs,hk,rfl,hga,hb⟩:=hrel
  have hbs:=hb.size
  by_cases hlt:k<vs.length
  ·obtain ⟨b,off,M,mc,C,cc,rfl,hSb,hbl,e0,e1,e2,e3,e4,ht⟩:=(HA.out.up hb).elem k hlt
   have hbx:=(Below.refl wr.heap.size wr).alloc (Nat.le_refl _) (.cells #[.int .i64 vs[k].kind,.int .i64 vs[k].num,.string vs[k].name,.slice M vs[k].labels.length mc,.slice C vs[k].args.length cc] 41)
   have hbx':=hb.trans (hbx.mono hbs)
   have HT:=Lib.hid (fociIn_any o ho s t kd vs[k] _ fb B bc _ _ (HF.out k hlt) (ht.up hbx) (HW.out.below hbx' HW.out.lt) (HO.out.up hbx'))
   have HG:=Lib.hid (hga.below hbx)
   have HLT:=Lib.hid (fun q hq=>(hga.own.lt q hq))
   have HBX:=Lib.hid hbx'
   have hsx:=hbx'.size
   have hwx:=hbx.size
   have HUS:=Lib.hid (eachF_succ o vs k hlt)
   have HLE:=Lib.hid (eachF_len o vs k hk)
   clear hga ht hbx hbx' hb
   go_wp2_with fail
   generalize wr.alloc (.cells #[.int .i64 vs[k].kind,.int .i64 vs[k].num,.string vs[k].name,.slice M vs[k].labels.length mc,.slice C vs[k].args.length cc] 41)=wx at *
   refine HT.out.mono ?_
   rintro e w1 ⟨A1,c1,rfl,hA1,hb1⟩
   have hb2:=(Below.refl w1.heap.size w1).alloc (Nat.le_refl _) (.cells #[.slice A1 (fociO o vs[k]).length c1] 39)
   have hb12:=hb1.trans (hb2.mono hb1.size)
   have hG:=HG.out.below hb12
   have hv:VasR (w1.alloc (.cells #[.slice A1 (fociO o vs[k]).length c1] 39)) (fun b=>(S b∨w.heap.size≤b)∧u5.ownBlock≠some b) A1 (fociO o vs[k]):=(hA1.up hb2).wide fun b hb _=>by
    rcases hb with hb | hb
    ·exact ⟨.inl hb.1,fun e=>by have:=(HLT.out b e).1;have:=hb.2;omega⟩
    ·exact ⟨.inr (by omega),fun e=>by have:=(HLT.out b e).2;omega⟩
   have hcn:(w1.alloc (.cells #[.slice A1 (fociO o vs[k]).length c1] 39)).cell? ⟨w1.heap.size,0,none⟩=some (.slice A1 (fociO o vs[k]).length c1):=by
    rw [World.cell?_alloc_at _ _ _ _ rfl]
    rfl
   have HB12:=Lib.hid (HBX.out.trans (hb12.mono hsx))
   have hs12:=HB12.out.size
   clear hA1 hb1 hb2 hb12 e0 e1 e2 e3 e4
   go_wp2_with (at_builtin;refine wpList_append_got1 rfl (.tmp 14) (.tmp 18) rfl _ rfl hG A1 w1.heap.size c1 (fociO o vs[k]).length 1 rfl rfl hcn hv (by rw [HLE.out];omega) hs12 ?_;intro v2 w2 hG2 hg2)
   have HG2:=Lib.hid hG2
   have HB2:=Lib.hid (HB12.out.grown hg2 hs12 (fun q hq=>(HLT.out q hq).1))
   clear hG2 hg2 hv hG hcn
   go_wp2
   go_roundw
   case rel=>exact ⟨k+1,_,by omega,by go_num,by rw [HUS.out];exact HG2.out,HB2.out⟩
   case measure=>simp [intOf];omega
  ·have hke:k=vs.length:=by omega
   subst hke
   have HG:=Lib.hid hga
   have HB:=Lib.hid hb
   clear hga hb
   go_wp2
   go_ret
   exact ⟨_,_,rfl,HG.out,HB.out⟩
set_option maxHeartbeats 2000000 in
theorem fociAll_any (o:Ot) (ho:FociOne o) (s t:Ty) (kd:Int) (vs:List Va) (hf:∀ i,(h:i<vs.length)→Fit o s t kd vs[i]) (ov:Value) (A:Option Addr) (c:Nat) (w:World) (S:Nat→Prop) (hoa:OtAt w w.heap.size ov o) (ha:VasR w S A vs) (hn:vs.length≤1048576) (hsum:(vs.flatMap (fociO o)).length≤1048576):
  Calls Tryz.prog 125 #[ov,.slice A vs.length c] w (VasPost S (vs.flatMap (fociO o)) w):=by
 have hmf:∀ (fn:Fn) (first cap:Array Value) (w:World),(Instr.makeFunc fn first cap).run Tryz.prog w=.ok (.func fn first cap) w:=fun _ _ _ _=>rfl
 obtain ⟨B,bc,rfl,_⟩:=hoa.open
 obtain ⟨hb0,p0,hs0⟩:=boxes1 w 30 #[.int .i64 o.kind,.string o.name,.int .i64 o.num,.slice B o.args.length bc]
 have HC:=Lib.hid (mappedFoci_any o ho s t kd vs hf A c w.heap.size B bc _ _ ((ha.wide (S':=fun b=>S b∧b<w.heap.size) fun b hb hl=>⟨hb,hl⟩).up hb0) hn p0 (hoa.up hb0))
 have HB0:=Lib.hid hb0
 have HLE:=Lib.hid (eachF_len o vs vs.length (Nat.le_refl _))
 have HFA:=Lib.hid (eachF_all o vs)
 obtain ⟨ls,hls⟩:∃ ls,ls=vs.flatMap (fociO o):=⟨_,rfl⟩
 rw [← hls] at hsum HFA ⊢
 clear ha hoa hb0 p0 hf ho hls
 go_enter Tryz.func125,Tryz.ntmps125
 go_wp2_with fail
 refine HC.out.mono ?_
 rintro e w1 ⟨v1,xs,rfl,hG,hb1⟩
 have HK:=Lib.hid (concat_any _ _ _ _ _ _ hG (by rw [HLE.out];exact hn) (by rw [HFA.out];exact hsum))
 rw [HFA.out] at HK
 have HB1:=Lib.hid (HB0.out.trans (hb1.mono HB0.out.size))
 clear hG hb1
 go_wp2_with fail
 refine HK.out.mono ?_
 rintro e w2 ⟨A2,c2,rfl,hA2,hb2⟩
 have HB2:=Lib.hid (HB1.out.trans (hb2.mono HB1.out.size))
 have HA2:=Lib.hid (hA2.wide (S':=fun b=>S b∨w.heap.size≤b) fun b hb _=>by
  have h1:=HB0.out.size
  have h2:=HB1.out.size
  rcases hb with (hb | hb) | hb
  ·exact .inl hb.1
  ·exact .inr (by omega)
  ·exact .inr (by omega))
 clear hA2 hb2
 go_wp2
 go_ret
 exact ⟨A2,c2,rfl,HA2.out,HB2.out⟩
end
end Go.Proofs.YtfnblkcmcfofoaaGreatDoor
