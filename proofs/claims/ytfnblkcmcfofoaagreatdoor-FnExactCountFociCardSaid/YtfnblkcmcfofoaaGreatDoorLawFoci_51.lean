/- Lemmas: SpecFociC. -/
import Derived.Test.YtfnblkcmcfofoaaGreatDoorLawFoci_50
import Derived.Test.YtfnblkcmcfofoaaGreatDoorLawFoci_14
import Derived.Deep.RegionHeldLaw
import Derived.Deep.DeepCutAuto

namespace Go.Proofs.YtfnblkcmcfofoaaGreatDoor
set_option maxRecDepth 100000
set_option linter.unusedSimpArgs false
open Go.RowKit
attribute [local go_sem ↓] Go.wp_at_zero Go.wp_at_succ
def FociSp (o:Ot):Prop:=∀ (s t:Ty) (kd:Int) (v:Va) (ov vv:Value) (w:World),Fit o s t kd v→OtAt w w.heap.size ov o→VaAt w w.heap.size vv v→Calls Tryz.prog 71 #[ov,vv] w (NewL (fociO o v) w)
theorem otsAt_args {w:World} {X:Nat} {a b c:Value} {A:Option Addr} {n ac:Nat} {t:Ot} (h:OtAt w X (.agg #[a,b,c,.slice A n ac]) t):OtsAt w X A t.args:=by
 obtain ⟨A',ac',e,_,h2⟩:=h.open
 simp only [Value.agg.injEq,Array.mk.injEq,List.cons.injEq,Value.slice.injEq,and_true] at e
 obtain ⟨_,_,_,rfl,_⟩:=e
 exact h2
noncomputable def firstF (o:Ot) (vs:List Va) (k:Nat):List Va:=(vs.take k).flatMap (fociO o)
theorem firstF_succ (o:Ot) (vs:List Va) (k:Nat) (h:k<vs.length):firstF o vs (k+1)=firstF o vs k++fociO o vs[k]:=by
 unfold firstF
 rw [List.take_succ_eq_append_getElem h,List.flatMap_append]
 simp
theorem firstF_all (o:Ot) (vs:List Va):firstF o vs vs.length=vs.flatMap (fociO o):=by simp [firstF]
theorem firstF_le (o:Ot) (vs:List Va) (k:Nat):(firstF o vs k).length≤(vs.flatMap (fociO o)).length:=by
 unfold firstF
 conv=>rhs;rw [← List.take_append_drop k vs,List.flatMap_append,List.length_append]
 omega
theorem append_got_at {w:World} {base:Nat} {S:Nat→Prop} {v:Value} {ts us:List Va} (ty:TypeId) (h:GotV w base S v ts) (A:Option Addr) (c:Nat) (hu:VasR w (fun b=>S b∧v.ownBlock≠some b) A us) (hn:ts.length+us.length≤1073741824) (hbase:base≤w.heap.size):
  ∃ v' w',(Builtin.append_ #[39,39] ty #[v,.slice A us.length c]).run Tryz.prog w=.ok v' w'∧GotV w' base S v' (ts++us)∧w.grownBy w' v.ownBlock∧∀ g,v'.ownBlock=some g→v.ownBlock=some g∨w.heap.size≤g:=by
 obtain ⟨i1,hi1,hy0,hy1,hy2⟩:=info_parts infoValue
 obtain ⟨xs,vs,hG⟩:=h
 obtain ⟨news,us',hl,hc,h1,hg,hk⟩:=hu.cells
 obtain ⟨v',w',hr,hown,hgrow,hat⟩:=append_cells_at w base 39 ty 41 i1 (.agg #[.int .i64 0,.int .i64 0,.string ⟨#[]⟩,.slice none 0 0,.slice none 0 0]) 5 80 Tryz.underlying39 hi1 hy0 hy1 hy2 rfl (by decide) v ts.length xs hG.own A us.length c news hl hc h1 (by unfold maxLen;omega) (by omega) hbase
 exact ⟨v',w',hr,⟨_,_,hG.step hg hk hown hgrow hat⟩,hgrow,hat⟩
theorem step_append_got_at {w:World} {base:Nat} {S:Nat→Prop} {ts us:List Va} {ops:Array Oper} {o:Oper} {a:Act} {K:Act→World→Prop} {Q:Exit→Act→World→Prop} {E:Prop} (hgd:o.guard=none) (s x:Operand)
  (ho:o.op=.call { callee:=.builtin .append,args:=#[s,x],argTypes:=#[39,39] }) (v:Value) (hs:a.eval s=v) (h:GotV w base S v ts) (A:Option Addr) (m c:Nat) (hm:us.length=m) (hx:a.eval x=.slice A m c) (hu:VasR w (fun b=>S b∧v.ownBlock≠some b) A us) (hn:ts.length+us.length≤1073741824) (hbase:base≤w.heap.size)
  (hK:∀ v' w',GotV w' base S v' (ts++us)→w.grownBy w' v.ownBlock→(∀ g,v'.ownBlock=some g→v.ownBlock=some g∨w.heap.size≤g)→K (a.put o.dst v') w'):if Region.wanted o (yielded ops a.tmps)=true then Oper.wp Tryz.prog o a w K Q else E:=by
 have hw:Region.wanted o (yielded ops a.tmps)=true:=by simp [Region.wanted,hgd]
 rw [if_pos hw]
 obtain ⟨v',w',hr,h2,h3,h4⟩:=append_got_at (w:=w) o.type h A c hu hn hbase
 subst hm
 unfold Oper.wp execOp
 simp only [ho,resolve,invoke,builtin,Sem.run_bind,Sem.run_pure,Result.andThen_ok,List.map_toArray,List.map_cons,List.map_nil,hs,hx,hr]
 exact hK v' w' h2 h3 h4
theorem new_many {w w1:World} {us:List Va} {A:Option Addr} {v:Value} (h:VasR w1 (fun b=>False∨w.heap.size≤b) A us) {base:Nat} (hbase:base≤w.heap.size) (hv:∀ g,v.ownBlock=some g→g<w.heap.size):
  VasR w1 (fun q=>base≤q∧v.ownBlock≠some q) A us:=
 h.wide fun q hq _=>by
  rcases hq with hq | hq
  ·exact hq.elim
  ·exact ⟨by omega,fun e=>by have:=hv q e;omega⟩
set_option maxHeartbeats 8000000 in
theorem specThen_any (n:Int) (nm:ByteArray) (a b:Ot) (s t:Ty) (kd:Int) (v:Va) (ov vv:Value) (w:World) (hf:Fit (.mk 12 n nm [a,b]) s t kd v) (ho:OtAt w w.heap.size ov (.mk 12 n nm [a,b])) (hv:VaAt w w.heap.size vv v) (ha1:FociSp a) (hb1':FociSp b):
  Calls Tryz.prog 131 #[ov,vv] w (NewL (fociO (.mk 12 n nm [a,b]) v) w):=by
 obtain ⟨ta,ka,kb,hfa,hfb,hus⟩:=hf.then_
 have hsum:=hf.szf.2
 rw [hus] at hsum ⊢
 obtain ⟨B,bc,rfl,_⟩:=ho.open
 simp only [Ot.kind,Ot.num,Ot.name,Ot.args] at ho ⊢
 obtain ⟨L,lc,A,ac,rfl,_⟩:=hv.open
 obtain ⟨hb0,p0,r0,q0,hs0⟩:=boxes3 w 30 41 41 #[.int .i64 12,.string nm,.int .i64 n,.slice B 2 bc] #[.int .i64 v.kind,.int .i64 v.num,.string v.name,.slice L v.labels.length lc,.slice A v.args.length ac] #[]
 have hG0:GotV (((w.alloc (.cells #[.int .i64 12,.string nm,.int .i64 n,.slice B 2 bc] 30)).alloc (.cells #[.int .i64 v.kind,.int .i64 v.num,.string v.name,.slice L v.labels.length lc,.slice A v.args.length ac] 41)).alloc (.cells #[] 41)) w.heap.size (fun b=>w.heap.size≤b) (.slice (some ⟨w.heap.size+1+1,0,none⟩) 0 0) []:=by
  have h:=World.ownsRow_lit (base:=w.heap.size) (e:=41) (size:=5) ((w.alloc (.cells #[.int .i64 12,.string nm,.int .i64 n,.slice B 2 bc] 30)).alloc (.cells #[.int .i64 v.kind,.int .i64 v.num,.string v.name,.slice L v.labels.length lc,.slice A v.args.length ac] 41)) #[] 0 (by simp;omega) (Nat.zero_le _) rfl
  rw [show ((w.alloc (.cells #[.int .i64 12,.string nm,.int .i64 n,.slice B 2 bc] 30)).alloc (.cells #[.int .i64 v.kind,.int .i64 v.num,.string v.name,.slice L v.labels.length lc,.slice A v.args.length ac] 41)).heap.size=w.heap.size+1+1 by simp] at h
  exact GotV.lit h
 have ho0:=ho.up hb0
 have hv0:=hv.up hb0
 have HB0:=Lib.hid hb0
 obtain ⟨b1,off1,B1,bc1,hBe,hbo,x0,x2,x1,x3,hoa⟩:=(show OtsAt _ _ B [a,b] from otsAt_args ho).elem 0 (by simp)
 obtain ⟨b1',off1',B2,bc2,hBe',_,y0,y2,y1,y3,hob⟩:=(show OtsAt _ _ B [a,b] from otsAt_args ho).elem 1 (by simp)
 have hee:=hBe.symm.trans hBe'
 simp only [Option.some.injEq,Addr.mk.injEq,and_true] at hee
 obtain ⟨rfl,rfl⟩:=hee
 subst hBe
 clear hBe'
 simp only [List.getElem_cons_zero,List.getElem_cons_succ,Nat.zero_mul,Nat.one_mul,Nat.add_zero,Nat.add_assoc,Nat.reduceAdd] at x0 x1 x2 x3 hoa y0 y1 y2 y3 hob
 have HC:=Lib.hid (fun W (h:OtAt W W.heap.size (.agg #[.int .i64 a.kind,.string a.name,.int .i64 a.num,.slice B1 a.args.length bc1]) a) (h2:VaAt W W.heap.size (.agg #[.int .i64 v.kind,.int .i64 v.num,.string v.name,.slice L v.labels.length lc,.slice A v.args.length ac]) v)=>ha1 s ta ka v _ _ W hfa h h2)
 have HC2:=Lib.hid (fun k (hk:k<(fociO a v).length) W X (h:OtAt W W.heap.size (.agg #[.int .i64 b.kind,.string b.name,.int .i64 b.num,.slice B2 b.args.length bc2]) b) (h2:VaAt W W.heap.size X (fociO a v)[k])=>hb1' ta t kb (fociO a v)[k] _ X W (hfb _ (List.getElem_mem hk)) h h2)
 have HO:=Lib.hid hoa
 have HO2:=Lib.hid hob
 have HV:=Lib.hid hv0
 have hl1z:=hfa.szf.2
 have HLE:=Lib.hid (fun k=>firstF_le b (fociO a v) k)
 have HFS:=Lib.hid (fun k h=>firstF_succ b (fociO a v) k h)
 have HFA:=Lib.hid (firstF_all b (fociO a v))
 have hf0:firstF b (fociO a v) 0=[]:=rfl
 have HF0:=Lib.hid hf0
 obtain ⟨ls,hls⟩:∃ ls,ls=(fociO a v).flatMap (fociO b):=⟨_,rfl⟩
 rw [← hls] at HLE HFA hsum ⊢
 generalize fociO a v=l1 at *
 clear hf ho hv hv0 ho0 hb0 hus hoa hob hfa hfb hls ha1 hb1' hf0
 go_enter Tryz.func131,Tryz.ntmps131
 go_upto_region 2 with fail
 generalize ((w.alloc (.cells #[.int .i64 12,.string nm,.int .i64 n,.slice (some ⟨b1,off1,none⟩) 2 bc] 30)).alloc (.cells #[.int .i64 v.kind,.int .i64 v.num,.string v.name,.slice L v.labels.length lc,.slice A v.args.length ac] 41)).alloc (.cells #[] 41)=w0 at *
 have HZ:=Lib.hid hs0
 have hlo:w.heap.size<w0.heap.size:=p0.lt
 have hlv:w.heap.size+1<w0.heap.size:=r0.lt
 have hws:w.heap.size≤w0.heap.size:=Nat.le_of_lt hlo
 clear hs0
 have po3:w0.cell? ⟨w.heap.size,3,none⟩=some (.slice (some ⟨b1,off1,none⟩) 2 bc):=p0.cell 3
 obtain ⟨pv0,pv1,pv2,pv3,pv4⟩:=r0.c5
 have hbo0:b1<w0.heap.size:=Nat.lt_trans hbo hlo
 have X0:=kC HB0.out x0 hbo
 have X1:=kC HB0.out x1 hbo
 have X2:=kC HB0.out x2 hbo
 have X3:=kC HB0.out x3 hbo
 have hz3:w0.heap.size=w.heap.size+3:=HZ.out
 have HZ3:=Lib.hid hz3
 clear hz3
 go_cut [6] (fun o wx=>∃ A1 c1,o=.slice A1 l1.length c1∧VasR wx (fun q=>w0.heap.size≤q) A1 l1∧Below w0.heap.size w0 wx)
 case first=>
  have KS:=Lib.hid (fun (x:World) (hx:Below w0.heap.size w0 x)=>And.intro (kC hx po3 hlo) (And.intro (kC hx pv0 hlv) (And.intro (kC hx pv1 hlv) (And.intro (kC hx pv2 hlv) (And.intro (kC hx pv3 hlv) (And.intro (kC hx pv4 hlv) (And.intro (kC hx X0 hbo0) (And.intro (kC hx X1 hbo0) (And.intro (kC hx X2 hbo0) (kC hx X3 hbo0))))))))))
  have hD:=(Below.refl w0.heap.size w0).drew
  have t_0:=dC po3
  have t_1:=dC pv0
  have t_2:=dC pv1
  have t_3:=dC pv2
  have t_4:=dC pv3
  have t_5:=dC pv4
  have t_6:=dC X0
  have t_7:=dC X1
  have t_8:=dC X2
  have t_9:=dC X3
  go_region_held3 (fun x:World=>x.cell? ⟨w.heap.size,3,none⟩=some (.slice (some ⟨b1,off1,none⟩) 2 bc)∧x.cell? ⟨w.heap.size+1,0,none⟩=some (.int .i64 v.kind)∧x.cell? ⟨w.heap.size+1,1,none⟩=some (.int .i64 v.num)∧x.cell? ⟨w.heap.size+1,2,none⟩=some (.string v.name)∧x.cell? ⟨w.heap.size+1,3,none⟩=some (.slice L v.labels.length lc)∧x.cell? ⟨w.heap.size+1,4,none⟩=some (.slice A v.args.length ac)∧x.cell? ⟨b1,off1,none⟩=some (.int .i64 a.kind)∧x.cell? ⟨b1,off1+1,none⟩=some (.string a.name)∧x.cell? ⟨b1,off1+2,none⟩=some (.int .i64 a.num)∧x.cell? ⟨b1,off1+3,none⟩=some (.slice B1 a.args.length bc1)) (first | (with_reducible exact KS.out _ hD) | (with_reducible exact KS.out _ hb1) | go_keep) (first | (go_at_call 71;(with_reducible refine (HC.out _ (((HO.out.lift HB0.out).more HB0.out.size).up hD) (HV.out.up hD)).mono ?_);rintro e w1 ⟨A1,c1,rfl,h1,h2⟩;have hb1:=hD.trans h2;have HB1:=Lib.hid hb1;have HA1:=Lib.hid (h1.wide (S':=fun q=>w0.heap.size≤q) fun q hq _=>hq.elim False.elim id);clear h1 h2))
  all_goals go_wp2
  all_goals go_meet
  all_goals exact ⟨A1,c1,rfl,HA1.out,HB1.out⟩
 case rest=>
  obtain ⟨A1,c1,rfl,h1,hb1⟩:=hcut
  have HA1:=Lib.hid h1
  have hwc:=hb1.size
  have HB1:=Lib.hid (HB0.out.trans (hb1.mono HB0.out.size))
  have HG1:=Lib.hid (hG0.below hb1)
  have qo3:=kC hb1 po3 hlo
  have hlc:w.heap.size<wc.heap.size:=by omega
  have hwsc:w.heap.size≤wc.heap.size:=by omega
  have hpoc:w.heap.size+1+1<wc.heap.size:=by have:=HZ3.out;omega
  clear h1 hb1 hG0 p0 r0 q0 x0 x1 x2 x3 X0 X1 X2 X3
  go_wp2
  go_loopw [5,7] (fun z i wr=>∃ k:Nat,k≤l1.length∧i=.int .i64 k∧GotV wr w.heap.size (fun b=>w.heap.size≤b) z (firstF b l1 k)∧(∀ q,z.ownBlock=some q→q=w.heap.size+1+1∨wc.heap.size≤q)∧(∀ q,q<wc.heap.size→q≠w.heap.size+1+1→wr.heap[q]?=wc.heap[q]?)∧Below w.heap.size w wr∧wc.heap.size≤wr.heap.size) (fun _ i _=>l1.length - (intOf i).toNat)
  case atStart=>exact ⟨0,Nat.zero_le _,rfl,by rw [HF0.out];exact HG1.out,fun q hq=>.inl (Option.some.inj hq).symm,fun _ _ _=>rfl,HB1.out,Nat.le_refl _⟩
  case round=>
   obtain ⟨k,hk,rfl,hga,hown,hold,hb,hsz1⟩:=hrel
   have hbs:=hb.size
   by_cases hlt:k<l1.length
   ·obtain ⟨b2,off2,M,mc,CC,cc,rfl,hSb,hbl,e0,e1,e2,e3,e4,ht⟩:=(HA1.out.keep (w':=wr) (fun q hq hl=>hold q hl (by have:=HZ3.out;omega)) hsz1).elem k hlt
    have HT:=Lib.hid (HC2.out k hlt wr.drew _ (((HO2.out.lift hb).more hb.size).up (Below.refl _ _).drew) (ht.here.up (Below.refl _ _).drew))
    have HG:=Lib.hid hga
    have HB:=Lib.hid hb
    have HOLD:=Lib.hid hold
    have HOWN:=Lib.hid hown
    have HUS:=Lib.hid (HFS.out k hlt)
    have hle:=HLE.out (k+1)
    rw [HUS.out,List.length_append] at hle
    have ro3:wr.cell? ⟨w.heap.size,3,none⟩=some (.slice (some ⟨b1,off1,none⟩) 2 bc):=(World.cell?_of_block (a:=⟨w.heap.size,3,none⟩) (hold _ hlc (by show w.heap.size≠_;omega))).trans qo3
    have s0:=kC hb y0 hbo
    have s1:=kC hb y1 hbo
    have s2:=kC hb y2 hbo
    have s3:=kC hb y3 hbo
    have hww:w.heap.size≤wr.heap.size:=by omega
    clear hga ht hb hold hown
    go_wp2
    go_region_law (first
     | (go_simp;go_at_call 71;refine HT.out.mono ?_;rintro e w1 ⟨A2,c2,rfl,h3,h4⟩;have hb12:=(Below.refl wr.heap.size wr).drew.trans h4;have hG:=HG.out.below hb12;have hv:VasR _ (fun q=>w.heap.size≤q∧u5.ownBlock≠some q) A2 _:=new_many h3 hww (fun g hg=>(HG.out.lt g hg).2))
     | (refine step_append_got_at (by rfl) (.tmp 21) (.tmp 30) (by rfl) _ (by rfl) hG A2 _ c2 rfl (by rfl) hv (by omega) (by have:=hb12.size;omega) ?_;intro v2 w2 hG2 hg2 hat2;have HP:=Lib.hid hG2;have HAT:=Lib.hid hat2;have HG2:=Lib.hid hg2;have HB12:=Lib.hid hb12;clear hG2 hat2 hg2 hb12 hv hG))
    all_goals
     go_wp2
     go_roundw
     case rel=>
      have hs12:=HB12.out.size
      have hs2:=HG2.out.size
      exact ⟨k+1,by omega,by go_num,by rw [HUS.out];exact HP.out,fun q hq=>(HAT.out q hq).elim (HOWN.out q) (fun h=>.inr (by omega)),fun q hq hne=>((HG2.out.block q (by omega) (fun e=>by have:=HOWN.out q e.symm;omega)).trans (HB12.out.block q (by omega))).trans (HOLD.out q hq hne),(HB.out.trans (HB12.out.mono hbs)).grown HG2.out (by omega) (fun q hq=>(HG.out.lt q hq).1),by omega⟩
     case measure=>simp [intOf];omega
   ·have hke:k=l1.length:=by omega
    subst hke
    rw [HFA.out] at hga
    obtain ⟨A2,c2,rfl⟩:=hga.form
    have HD:=Lib.hid (hga.done (S':=fun b=>False∨w.heap.size≤b) (by unfold maxLen;omega) (fun b hb=>.inr hb) (fun b hb=>.inr hb))
    have HB:=Lib.hid hb
    clear hga hb
    go_wp2
    go_ret
    exact ⟨A2,c2,rfl,HD.out,HB.out⟩
theorem many_ret {w W:World} {A1:Option Addr} {c1 m:Nat} {us:List Va} (hm:m=us.length) (hB:Below w.heap.size w W) (h:VasR W (fun b=>w.heap.size≤b) A1 us):
  NewL [listVa us] w (.returned (.slice (some ⟨W.heap.size,0,none⟩) 1 1)) (W.alloc (.cells #[.int .i64 5,.int .i64 0,.string ⟨#[]⟩,.slice none 0 0,.slice A1 m c1] 41)):=by
 subst hm
 have h1:=VaR.of (k:=5) (n:=0) (nm:=⟨#[]⟩) (ls:=[]) (L:=none) (lc:=0) (ac:=c1) (Nat.zero_le _) (Nat.zero_le _) (fun i h=>absurd h (by simp)) (fun i h=>absurd h (by simp)) h
 exact ⟨_,_,rfl,(VasR.one h1).wide fun q hq _=>.inr (hq.elim id fun e=>by have:=hB.size;omega),hB.alloc hB.size _⟩
set_option maxHeartbeats 8000000 in
theorem specMap_any (n:Int) (nm:ByteArray) (a:Ot) (s t:Ty) (kd:Int) (v:Va) (ov vv:Value) (w:World) (hf:Fit (.mk 11 n nm [a]) s t kd v) (ho:OtAt w w.heap.size ov (.mk 11 n nm [a])) (hv:VaAt w w.heap.size vv v) (ha1:FociSp a):
  Calls Tryz.prog 132 #[ov,vv] w (NewL (fociO (.mk 11 n nm [a]) v) w):=by
 obtain ⟨te,ta,hfit,hus⟩:=hf.map_
 have hszv:=hf.szv
 have hsze:=szVa_eq v
 have hszl:=szVas_len v.args
 have hsum:=hf.szf.1
 rw [hus] at hsum ⊢
 have hsum2:(v.args.flatMap (fociO a)).length≤1048576:=by
  have h1:=szVas_len (v.args.flatMap (fociO a))
  have h2:szVas [listVa (v.args.flatMap (fociO a))]=1+szVas (v.args.flatMap (fociO a)):=by
   have h0:(⟨#[]⟩:ByteArray).size=0:=rfl
   rw [szVas,szVas,listVa,szVa,sumSizes,h0]
   simp
  omega
 obtain ⟨B,bc,rfl,_⟩:=ho.open
 simp only [Ot.kind,Ot.num,Ot.name,Ot.args] at ho ⊢
 obtain ⟨L,lc,A,ac,rfl,_,_,_,_,ha⟩:=hv.open
 obtain ⟨hb0,p0,r0,q0,hs0⟩:=boxes3 w 30 41 41 #[.int .i64 11,.string nm,.int .i64 n,.slice B 1 bc] #[.int .i64 v.kind,.int .i64 v.num,.string v.name,.slice L v.labels.length lc,.slice A v.args.length ac] #[.int .i64 5,.int .i64 0,.string ⟨#[]⟩,.slice none 0 0,.slice none 0 0]
 have HB0:=Lib.hid hb0
 obtain ⟨b1,off1,B1,bc1,rfl,hbo,x0,x2,x1,x3,hoa⟩:=(show OtsAt _ _ B [a] from otsAt_args ho).elem 0 (by simp)
 simp only [List.getElem_cons_zero,Nat.zero_mul,Nat.add_zero] at x0 x1 x2 x3 hoa
 have HC:=Lib.hid (fun k (hk:k<v.args.length) W X (h:OtAt W W.heap.size (.agg #[.int .i64 a.kind,.string a.name,.int .i64 a.num,.slice B1 a.args.length bc1]) a) (h2:VaAt W W.heap.size X v.args[k])=>ha1 te ta 1 v.args[k] _ X W (hfit _ (List.getElem_mem hk)) h h2)
 have HO:=Lib.hid hoa
 have HA:=Lib.hid ha
 have HLE:=Lib.hid (fun k=>firstF_le a v.args k)
 have HFS:=Lib.hid (fun k h=>firstF_succ a v.args k h)
 have HFA:=Lib.hid (firstF_all a v.args)
 have hf0:firstF a v.args 0=[]:=rfl
 have HF0:=Lib.hid hf0
 obtain ⟨ls,hls⟩:∃ ls,ls=v.args.flatMap (fociO a):=⟨_,rfl⟩
 rw [← hls] at HLE HFA hsum2 ⊢
 clear hf ho hv ha hb0 hus hoa hfit hls ha1 hf0 hsum
 go_enter Tryz.func132,Tryz.ntmps132
 go_upto_region 2 with fail
 generalize ((w.alloc (.cells #[.int .i64 11,.string nm,.int .i64 n,.slice (some ⟨b1,off1,none⟩) 1 bc] 30)).alloc (.cells #[.int .i64 v.kind,.int .i64 v.num,.string v.name,.slice L v.labels.length lc,.slice A v.args.length ac] 41)).alloc (.cells #[.int .i64 5,.int .i64 0,.string ⟨#[]⟩,.slice none 0 0,.slice none 0 0] 41)=w0 at *
 have hz3:w0.heap.size=w.heap.size+3:=hs0
 have HZ3:=Lib.hid hz3
 have hws:w.heap.size≤w0.heap.size:=by omega
 clear hs0 hz3
 go_wp2
 go_loopw [6] (fun i wr=>∃ (k m c2:Nat) (A2:Option Addr),k≤v.args.length∧m=(firstF a v.args k).length∧i=.int .i64 k∧Whole1 wr (w.heap.size+1+1) 41 #[.int .i64 5,.int .i64 0,.string ⟨#[]⟩,.slice none 0 0,.slice A2 m c2]∧GotV wr w0.heap.size (fun b=>w0.heap.size≤b) (.slice A2 m c2) (firstF a v.args k)∧(∀ q,q<w0.heap.size→q≠w.heap.size+1+1→wr.heap[q]?=w0.heap[q]?)∧Below w.heap.size w wr∧w0.heap.size≤wr.heap.size) (fun i _=>v.args.length - (intOf i).toNat)
 case atStart=>exact ⟨0,0,0,none,Nat.zero_le _,by rw [HF0.out];rfl,rfl,q0,by rw [HF0.out];exact GotV.start _ _ _,fun _ _ _=>rfl,HB0.out,Nat.le_refl _⟩
 case round=>
  obtain ⟨k,m,c2,A2,hk,hm,rfl,hout,hga,hold,hb,hsz1⟩:=hrel
  have hzz:=HZ3.out
  have hpo:(w.heap.size+1+1)<w0.heap.size:=by omega
  have hbs:=hb.size
  have ho1:Whole1 wr w.heap.size 30 #[.int .i64 11,.string nm,.int .i64 n,.slice (some ⟨b1,off1,none⟩) 1 bc]:=(hold _ (by omega) (by omega)).trans p0
  have hv1:Whole1 wr (w.heap.size+1) 41 #[.int .i64 v.kind,.int .i64 v.num,.string v.name,.slice L v.labels.length lc,.slice A v.args.length ac]:=(hold _ (by omega) (by omega)).trans r0
  have qo3:wr.cell? ⟨w.heap.size,3,none⟩=some (.slice (some ⟨b1,off1,none⟩) 1 bc):=ho1.cell 3
  have qv4:wr.cell? ⟨w.heap.size+1,4,none⟩=some (.slice A v.args.length ac):=hv1.cell 4
  have o4:wr.cell? ⟨w.heap.size+1+1,4,none⟩=some (.slice A2 m c2):=hout.cell 4
  have f4:wr.frozen? ⟨w.heap.size+1+1,4,none⟩=false:=hout.free 4
  have how:w.heap.size+1+1<wr.heap.size:=by omega
  have hng:0≤(k:Int):=by omega
  clear ho1 hv1 hzz
  by_cases hlt:k<v.args.length
  ·obtain ⟨b2,off2,M,mc,CC,cc,rfl,hbl,e0,e1,e2,e3,e4,ht⟩:=((HA.out.below hb).more hb.size).elem k hlt
   have HT:=Lib.hid (HC.out k hlt wr.drew _ (((HO.out.lift hb).more hb.size).up (Below.refl _ _).drew) (ht.up (Below.refl _ _).drew))
   have HG:=Lib.hid hga
   have HO2:=Lib.hid hout
   have HOLD:=Lib.hid hold
   have HB:=Lib.hid hb
   have HUS:=Lib.hid (HFS.out k hlt)
   have hle:=HLE.out (k+1)
   rw [HUS.out,List.length_append] at hle
   have HM:=Lib.hid hm
   have s0:=kC hb x0 hbo
   have s1:=kC hb x1 hbo
   have s2:=kC hb x2 hbo
   have s3:=kC hb x3 hbo
   clear hga ht hb hold hout hm
   go_wp2
   go_region_law (first
    | (go_simp;go_at_call 71;refine HT.out.mono ?_;rintro e w1 ⟨A3,c3,rfl,h3,h4⟩;have hb12:=(Below.refl wr.heap.size wr).drew.trans h4;have hG:=HG.out.below hb12;have y4:=(kC hb12 o4 how);have hv:VasR _ (fun q=>w0.heap.size≤q∧(Value.slice A2 m c2).ownBlock≠some q) A3 _:=new_many h3 hsz1 (fun g hg=>(HG.out.lt g hg).2))
    | (refine step_append_got (by rfl) (.tmp 16) (.tmp 26) (by rfl) _ (by rfl) hG A3 _ c3 rfl (by rfl) hv (by omega) (by have:=hb12.size;omega) ?_;intro v2 w2 hG2 hg2;have hvb:=fun q hq=>(HG.out.lt q hq).1;have ho3:Whole1 w2 (w.heap.size+1+1) 41 #[.int .i64 5,.int .i64 0,.string ⟨#[]⟩,.slice none 0 0,.slice A2 m c2]:=((hg2.block (w.heap.size+1+1) (by have:=hb12.size;omega) (fun e=>by have:=hvb _ e.symm;omega)).trans (hb12.block (w.heap.size+1+1) how)).trans HO2.out;have m4:w2.cell? ⟨w.heap.size+1+1,4,none⟩=some (.slice A2 m c2):=ho3.cell 4;have n4:w2.frozen? ⟨w.heap.size+1+1,4,none⟩=false:=ho3.free 4;obtain ⟨A4,c4,hv3⟩:=hG2.form;subst hv3;have HP:=Lib.hid (got_put (show w.heap.size≤w.heap.size+1+1 by omega) hpo hsz1 hb12 hg2 hvb HO2.out hG2 HOLD.out HB.out);clear hG2 hg2 ho3 hb12 hvb hG hv))
   all_goals
    go_wp2
    go_roundw
    case rel=>exact ⟨k+1,_,c4,A4,by omega,by rw [HUS.out],by go_num,by simpa using HP.out.1,by rw [HUS.out];simpa using HP.out.2.1,by simpa using HP.out.2.2.1,by simpa using HP.out.2.2.2.1,by simpa using HP.out.2.2.2.2⟩
    case measure=>simp [intOf];omega
  ·have hke:k=v.args.length:=by omega
   subst hke
   rw [HFA.out] at hga hm
   have HD:=Lib.hid ((hga.done2 (S':=fun b=>w.heap.size≤b) hm (by unfold maxLen;omega) (fun b hb=>by omega) (fun b hb=>by omega)))
   have HB:=Lib.hid hb
   have HM:=Lib.hid hm
   obtain ⟨o0x,o1x,o2x,o3x,o4x⟩:=hout.c5
   clear hga hb hold hout hm
   go_wp2
   go_ret
   exact many_ret HM.out HB.out HD.out
end Go.Proofs.YtfnblkcmcfofoaaGreatDoor
