/- Lemmas: ImplEqual. -/
import Derived.Test.YtfnblkcmcfofoaaGreatDoorLawFoci_23
import Derived.Test.YtfnblkcmcfofoaaGreatDoorLawFoci_10
import Derived.Test.YtfnblkcmcfofoaaGreatDoorLawFoci_24
import Derived.Deep.RegionHeld3
import Derived.Deep.RegionHeldLaw

namespace Go.Proofs.YtfnblkcmcfofoaaGreatDoor
set_option maxRecDepth 100000
open Go.RowKit
def plP:Pl→Value | none=>.pointer none | some (g,_)=>.pointer (some ⟨g,0,none⟩)
def plN:Pl→Value | none=>.int .i64 0 | some (_,n)=>.int .i64 (n:Int)
theorem plVal_eq (k:Pl):plVal k=.agg #[plP k,plN k]:=by
 match k with
 | none=>rfl
 | some (g,n)=>rfl
def pl2Val (k:Pl×Pl):Value:=.agg #[plP k.1,plN k.1,plP k.2,plN k.2]
def Pl2Ok (w1:World) (B mb:Nat) (k:Pl×Pl):Prop:=PlOk w1 B mb k.1∧PlOk w1 B mb k.2
theorem pl2_array:Tryz.prog.underlying 245=some (.array 2 223):=by kernel_rfl
theorem pl_size2:(Tryz.prog.info? 223).map (fun i=>i.size)=some 2:=by kernel_rfl
theorem run_sizeOf_pl (w:World):(sizeOf 223).run Tryz.prog w=.ok 2 w:=by
 have h:=pl_size2
 cases hi:Tryz.prog.info? 223 with
 | none=>rw [hi] at h;cases h
 | some i=>
  rw [hi] at h
  simp at h
  simp [sizeOf,typeInfo,hi,Result.andThen,h]
theorem run_pl2_part0 (w:World) (a b c d:Value):(part 223 #[a,b,c,d] 0).run Tryz.prog w=.ok (.agg #[a,b]) w:=by
 kernel_rfl
theorem run_pl2_part1 (w:World) (a b c d:Value):(part 223 #[a,b,c,d] 2).run Tryz.prog w=.ok (.agg #[c,d]) w:=by
 kernel_rfl
theorem run_pl2_eq (w:World) (d:Nat) (k k':Pl×Pl) (r1 r2:Bool) (h1:(Op.equalIn (d+2) 223 (plVal k.1) (plVal k'.1)).run Tryz.prog w=.ok r1 w) (h2:(Op.equalIn (d+2) 223 (plVal k.2) (plVal k'.2)).run Tryz.prog w=.ok r2 w):
  (Op.equalIn (d+3) 245 (pl2Val k) (pl2Val k')).run Tryz.prog w=.ok (r1&&r2) w:=by
 rw [plVal_eq,plVal_eq] at h1 h2
 unfold Op.equalIn pl2Val
 simp only [Sem.run_bind,run_underlying pl2_array,Result.andThen_ok,run_sizeOf_pl]
 simp only [Std.Legacy.Range.forIn_eq_forIn_range',Std.Legacy.Range.size,Nat.sub_zero,Nat.add_one_sub_one,Nat.div_one]
 rw [show List.range' 0 2 1=[0,1] from rfl]
 cases r1<;>cases r2<;>simp [run_pl2_part0,run_pl2_part1,h1,h2,Result.andThen]
theorem pl2_check (w:World) (em:Bool) (n:Nat) (k:Pl×Pl):(Instr.checkKey em (n+3) 245 (pl2Val k)).run Tryz.prog w=.ok () w:=by
 have h1:=pl_check w em n k.1
 have h2:=pl_check w em n k.2
 rw [plVal_eq] at h1 h2
 unfold Instr.checkKey pl2Val
 simp only [Sem.run_bind,run_underlying pl2_array,Result.andThen_ok]
 simp only [Std.Legacy.Range.forIn_eq_forIn_range',Std.Legacy.Range.size,Nat.sub_zero,Nat.add_one_sub_one,Nat.div_one]
 rw [show List.range' 0 2 1=[0,1] from rfl]
 simp [run_pl2_part0,run_pl2_part1,h1,h2,Result.andThen]
theorem bits_plP (k:Pl) (n:Nat):Instr.sameBits n (plP k) (plP k)=true:=by
 match k with
 | none=>simp [plP,Instr.sameBits]
 | some (g,m)=>simp [plP,Instr.sameBits]
theorem bits_plN (k:Pl) (n:Nat):Instr.sameBits n (plN k) (plN k)=true:=by
 match k with
 | none=>simp [plN,Instr.sameBits]
 | some (g,m)=>simp [plN,Instr.sameBits]
theorem pl2Kit (w1:World) (B mb:Nat):KeyKit Tryz.prog 245 pl2Val (PlWd w1 B mb) (Pl2Ok w1 B mb) where
 find:=fun w k es=>findKey_wide pl2_array rfl w _ es
 check:=fun w em k=>pl2_check w em 9997 k
 same:=fun w k=>run_pl2_eq w 9997 k k true true (pl_eq_same w 9997 k.1) (pl_eq_same w 9997 k.2)
 other:=fun w k k' hw hk hk' hne=>by
  by_cases h1:k.1=k'.1
  ·have h2:k.2≠k'.2:=fun e=>hne (by rw [Prod.ext_iff];exact ⟨h1,e⟩)
   have:=run_pl2_eq w 9997 k k' true false (by rw [h1];exact pl_eq_same w 9997 k'.1) (pl_eq_other w 9997 k.2 k'.2 hw hk.2 hk'.2 h2)
   exact this
  ·by_cases h2:k.2=k'.2
   ·exact run_pl2_eq w 9997 k k' false true (pl_eq_other w 9997 k.1 k'.1 hw hk.1 hk'.1 h1) (by rw [h2];exact pl_eq_same w 9997 k'.2)
   ·exact run_pl2_eq w 9997 k k' false false (pl_eq_other w 9997 k.1 k'.1 hw hk.1 hk'.1 h1) (pl_eq_other w 9997 k.2 k'.2 hw hk.2 hk'.2 h2)
 stays:=fun w k=>stays_agg w _ (by
  intro v hv
  simp at hv
  rcases hv with rfl | rfl | rfl | rfl
  ·exact bits_plP _ _
  ·exact bits_plN _ _
  ·exact bits_plP _ _
  ·exact bits_plN _ _)
 inj:=fun k k' h=>by
  simp [pl2Val] at h
  obtain ⟨h1,h2,h3,h4⟩:=h
  rw [Prod.ext_iff]
  exact ⟨plVal_inj _ _ (by rw [plVal_eq,plVal_eq,h1,h2]),plVal_inj _ _ (by rw [plVal_eq,plVal_eq,h3,h4])⟩
end Go.Proofs.YtfnblkcmcfofoaaGreatDoor
namespace Go.Proofs.YtfnblkcmcfofoaaGreatDoor
set_option maxRecDepth 100000
open Go.RowKit
set_option maxHeartbeats 1000000 in
theorem slicesEqual_any (A A':Option Addr) (c c':Nat) (ss ss':List ByteArray) (w:World) (hA:StrsAt w w.heap.size A ss) (hA':StrsAt w w.heap.size A' ss') (hn:ss.length≤maxLen):
  Calls Tryz.prog 159 #[.slice A ss.length c,.slice A' ss'.length c'] w (BoolDrew (textsB ss ss') w):=by
 unfold maxLen at hn
 by_cases hl:ss.length=ss'.length
 ·have hneq:((ss.length:Int) != (ss'.length:Int))=false:=by rw [bne_eq_false_iff_eq];omega
  have HL:=Lib.hid hl
  have hl1:ss.length≤ss'.length:=by omega
  clear hl
  go_enter Tryz.func159,Tryz.ntmps159
  go_wp2
  go_loopw [13] (fun i wr=>∃ k:Nat,k≤ss.length∧i=.int .i64 k∧(∀ j,(h1:j<ss.length)→(h2:j<ss'.length)→j<k→ss[j]=ss'[j])∧∃ n,wr=w.drewN n) (fun i _=>ss.length - (intOf i).toNat)
  case atStart=>exact ⟨0,Nat.zero_le _,rfl,fun j _ _ h=>absurd h (by omega),0,rfl⟩
  case round=>
   obtain ⟨k,hk,rfl,hall,n,rfl⟩:=hrel
   have HA:=Lib.hid hall
   clear hall hneq
   by_cases hlt:k<ss.length
   ·obtain ⟨b,off,rfl,hbl,hcell⟩:=hA k hlt
    obtain ⟨b',off',rfl,hbl',hcell'⟩:=hA' k (by omega)
    by_cases he:ss[k]=ss'[k]
    ·have hq:(ss[k].toList != ss'[k].toList)=false:=by rw [bne_eq_false_iff_eq,he]
     have hq2:(ss[k].toList == ss'[k].toList)=true:=by rw [beq_iff_eq,he]
     have HE:=Lib.hid he
     clear he
     go_wp2
     go_quiet (fail)
     go_wp2
     go_roundw
     case rel=>
      refine ⟨k+1,by omega,by go_num,fun j h1 h2 h=>?_,_,rfl⟩
      by_cases e:j=k
      ·subst e
       exact HE.out
      ·exact HA.out j h1 h2 (by omega)
     case measure=>simp [intOf];omega
    ·have hne:ss[k].toList≠ss'[k].toList:=by
      rw [ByteArray.toList_eq,ByteArray.toList_eq]
      exact fun e=>he (WideShapes.bytes_inj e)
     have hq:(ss[k].toList != ss'[k].toList)=true:=by rw [bne_iff_ne];exact hne
     have hq2:(ss[k].toList == ss'[k].toList)=false:=by rw [beq_eq_false_iff_ne];exact hne
     have hr:=Lib.hid (textsB_no ss ss' k hlt (by omega) he)
     clear he hne
     go_wp2
     go_quiet (fail)
     go_wp2
     go_ret
     exact ⟨by rw [hr.out];rfl,_,World.drewN_drewN _ _ _⟩
   ·have hr:=Lib.hid (textsB_yes ss ss' HL.out fun j h1 h2=>HA.out j h1 h2 (by omega))
    go_wp2
    go_ret
    exact ⟨by rw [hr.out];rfl,n,rfl⟩
 ·have hneq:((ss.length:Int) != (ss'.length:Int))=true:=by rw [bne_iff_ne];omega
  have hr:=Lib.hid (textsB_len ss ss' hl)
  clear hl
  go_enter Tryz.func159,Tryz.ntmps159
  go_wp2
  go_ret
  exact ⟨by rw [hr.out];rfl,0,rfl⟩
def nodesB (a b:Ty):Bool:=decide (a.kind=b.kind)&&textsB a.labels b.labels
set_option maxHeartbeats 1000000 in
theorem equalNodes_any (a b:Ty) (va vb:Value) (w:World) (ha:TyAt w w.heap.size va a) (hb:TyAt w w.heap.size vb b):Calls Tryz.prog 212 #[va,vb] w (BoolIs (nodesB a b) w):=by
 obtain ⟨L,lc,A,ac,rfl,hn,_,hl,_⟩:=ha.open
 obtain ⟨L',lc',A',ac',rfl,_,_,hl',_⟩:=hb.open
 obtain ⟨hb0,p0,q0,hs0⟩:=boxes2 w 27 27 #[.int .i64 a.kind,.slice L a.labels.length lc,.slice A a.args.length ac] #[.int .i64 b.kind,.slice L' b.labels.length lc',.slice A' b.args.length ac']
 have HE:=Lib.hid (slicesEqual_any L L' lc lc' a.labels b.labels _ (hl.up' hb0) (hl'.up' hb0) hn)
 clear ha hb hl hl' hs0 hn
 by_cases hk:a.kind=b.kind
 ·have i0:(a.kind == b.kind)=true:=by rw [beq_iff_eq];exact hk
  have hr:=Lib.hid (show nodesB a b=textsB a.labels b.labels by unfold nodesB;simp [hk])
  clear hk
  go_enter Tryz.func212,Tryz.ntmps212
  go_wp2_with fail
  refine HE.out.mono ?_
  rintro e w1 ⟨rfl,n,rfl⟩
  go_wp2
  go_ret
  exact ⟨by rw [hr.out];rfl,hb0.trans ⟨rfl,rfl,rfl,Nat.le_refl _,fun _ _=>rfl⟩⟩
 ·have i0:(a.kind == b.kind)=false:=by rw [beq_eq_false_iff_ne];exact hk
  have hr:=Lib.hid (show nodesB a b=false by unfold nodesB;simp [hk])
  clear hk
  go_enter Tryz.func212,Tryz.ntmps212
  go_wp2
  go_ret
  exact ⟨by rw [hr.out];rfl,hb0⟩
end Go.Proofs.YtfnblkcmcfofoaaGreatDoor
namespace Go.Proofs.YtfnblkcmcfofoaaGreatDoor
set_option maxRecDepth 100000
open Go.RowKit
structure Pr where
 x:Ty
 y:Ty
 L:Option Addr
 l:Nat
 A:Option Addr
 a:Nat
 L':Option Addr
 l':Nat
 A':Option Addr
 a':Nat
def prCells (p:Pr):List Value:=[.int .i64 p.x.kind,.slice p.L p.x.labels.length p.l,.slice p.A p.x.args.length p.a,.int .i64 p.y.kind,.slice p.L' p.y.labels.length p.l',.slice p.A' p.y.args.length p.a']
def pCells:List Pr→List Value | []=>[] | p::r=>pCells r++prCells p
theorem pCells_len:∀ l:List Pr,(pCells l).length=l.length * 6
 | []=>rfl
 | f::r=>by
  rw [pCells,List.length_append,pCells_len r]
  simp [prCells]
  omega
def pSize:List Pr→Nat | []=>0 | p::r=>sizeTy p.x+pSize r
theorem pSize_len:∀ l:List Pr,l.length≤pSize l
 | []=>Nat.le_refl _
 | p::r=>by
  have:=pSize_len r
  have:=sizeTy_eq p.x
  rw [pSize,List.length_cons]
  omega
def PrOk (w1:World) (B:Nat) (p:Pr):Prop:=TyIn w1 (fun b=>b<B) (.agg #[.int .i64 p.x.kind,.slice p.L p.x.labels.length p.l,.slice p.A p.x.args.length p.a]) p.x∧TyIn w1 (fun b=>b<B) (.agg #[.int .i64 p.y.kind,.slice p.L' p.y.labels.length p.l',.slice p.A' p.y.args.length p.a']) p.y
def PlAt (w1:World) (B:Nat) (P:Pl) (l:List Ty):Prop:=(P=none∧l=[])∨∃ g,P=some (g,l.length)∧l≠[]∧TysIn w1 (fun b=>b<B) (some ⟨g,0,none⟩) l
theorem PlAt.uniq {w1:World} {B:Nat} {P:Pl} {l l':List Ty} (h:PlAt w1 B P l) (h':PlAt w1 B P l'):l=l':=by
 rcases h with ⟨rfl,rfl⟩ | ⟨g,rfl,h1,h2⟩
 ·rcases h' with ⟨_,rfl⟩ | ⟨g',h3,_⟩
  ·rfl
  ·cases h3
 ·rcases h' with ⟨h3,_⟩ | ⟨g',h3,h4,h5⟩
  ·cases h3
  ·simp at h3
   obtain ⟨rfl,h6⟩:=h3
   exact h2.uniq h5 h6
theorem place_of {w1:World} {B mb:Nat} (hmb:∀ (t:TypeId) (cs:Array Value),¬ Whole1 w1 mb t cs) {A:Option Addr} {ts:List Ty} (h:TysIn w1 (fun b=>b<B) A ts) (c:Nat):∃ P,PlAt w1 B P ts∧PlOk w1 B mb P∧∀ W,Calls Tryz.prog 193 #[.slice A ts.length c] W (PlaceRet W P):=by
 by_cases h0:ts=[]
 ·subst h0
  exact ⟨none,.inl ⟨rfl,rfl⟩,fun g n e=>(by cases e),fun W=>placeOf_nil A c W⟩
 ·obtain ⟨g,cs,rfl,_,_⟩:=h.addr h0
  exact ⟨some (g,ts.length),.inr ⟨g,rfl,h0,h⟩,okKey hmb h h0 _,fun W=>placeOf_some g _ c W (List.length_pos_iff.2 h0)⟩
theorem TyIn.args_of {w1:World} {B:Nat} {a b:Value} {A:Option Addr} {n c:Nat} {t:Ty} (h:TyIn w1 (fun b=>b<B) (.agg #[a,b,.slice A n c]) t):n=t.args.length∧TysIn w1 (fun b=>b<B) A t.args:=by
 obtain ⟨L,lc,A',ac,gl,hv,_,_,_,ha⟩:=h.open
 simp at hv
 obtain ⟨_,_,rfl,rfl,_⟩:=hv
 obtain ⟨m0,ga',vs',Ss',m1,m2,m3,m4⟩:=ha
 exact ⟨rfl,m0,ga',vs',Ss',m1.imp id fun ⟨a,b,c⟩=>⟨a,b.1,c⟩,fun i hi b hb=>⟨(m2 i hi b hb).1.1,(m2 i hi b hb).2⟩,m3,m4⟩
theorem TysIn.elem3 {w1:World} {B:Nat} {A:Option Addr} {ts:List Ty} (h:TysIn w1 (fun b=>b<B) A ts) (i:Nat) (hi:i<ts.length):∃ g L lc A' ac,A=some ⟨g,0,none⟩∧g<B∧(∃ t cs,Whole1 w1 g t cs)∧w1.cell? ⟨g,i * 3,none⟩=some (.int .i64 ts[i].kind)∧w1.cell? ⟨g,i * 3+1,none⟩=some (.slice L ts[i].labels.length lc)∧
  w1.cell? ⟨g,i * 3+2,none⟩=some (.slice A' ts[i].args.length ac)∧TyIn w1 (fun b=>b<B) (.agg #[.int .i64 ts[i].kind,.slice L ts[i].labels.length lc,.slice A' ts[i].args.length ac]) ts[i]:=by
 obtain ⟨hm,ga,vs,Ss,h1,h2,h3,h4⟩:=h
 rcases h1 with rfl | ⟨rfl,h5,h6⟩
 ·exact absurd hi (by simp)
 ·obtain ⟨L,lc,A',ac,gl,hv,_⟩:=(h4 i hi).open
  have c0:=h6.cell i 0 hi (by omega)
  have c1:=h6.cell i 1 hi (by omega)
  have c2:=h6.cell i 2 hi (by omega)
  have ht:=(h4 i hi).wide fun b hb=>(h2 i hi b hb).1
  have h7:∃ t cs,Whole1 w1 ga t cs:=by
   obtain ⟨cs,h7,_⟩:=h6
   exact ⟨_,cs,h7⟩
  rw [hv] at c0 c1 c2 ht
  exact ⟨ga,L,lc,A',ac,rfl,h5,h7,c0,c1,c2,ht⟩
structure Inv2 (w1:World) (B mb:Nat) (a0 b0:Ty) (wc w:World) (v:Value) (stk:List Pr) (F:Pl×Pl→Option Value):Prop where
 own:w.ownsRow B 243 6 v stk.length (pCells stk)
 keep:PlWd w1 B mb w
 call:Below wc.heap.size wc w
 known:Known pl2Val (Pl2Ok w1 B mb) w mb F
 ok:∀ p ∈ stk,PrOk w1 B p
 fwd:(∀ p ∈ stk,p.x=p.y)→a0=b0
 bwd:a0=b0→∀ p ∈ stk,p.x=p.y
 vals:∀ k u,F k=some u→u=.bool true
 memo:∀ P Q l m u,F (P,Q)=some u→PlAt w1 B P l→PlAt w1 B Q m→(∀ p ∈ stk,sizeTy p.x≤sizeTys l→p.x=p.y)→l=m
 cnt:pSize stk≤2000000
 size:B≤w.heap.size
section
variable {w1 wc w:World} {B mb:Nat} {a0 b0:Ty} {v:Value} {p:Pr} {r stk:List Pr} {F:Pl×Pl→Option Value}
theorem Inv2.below {w':World} (h:Inv2 w1 B mb a0 b0 wc w v stk F) (hB0:wc.heap.size≤w.heap.size) (hb:Below w.heap.size w w'):Inv2 w1 B mb a0 b0 wc w' v stk F:=
 { h with
  own:=owns_keep4 h.own fun g hg=>hb.block g (h.own.lt g hg).2
  keep:=fun g hg hne=>(hb.block g (Nat.lt_of_lt_of_le hg h.size)).trans (h.keep g hg hne)
  call:=h.call.trans (hb.mono hB0)
  known:=h.known.keep (hb.block mb h.known.lt)
  size:=Nat.le_trans h.size hb.size }
theorem same_of (h1:nodesB p.x p.y=true) (h2:p.x.args=p.y.args):p.x=p.y:=by
 unfold nodesB at h1
 rw [Bool.and_eq_true_iff] at h1
 have h3:=of_decide_eq_true h1.1
 have h4:=h1.2
 unfold textsB at h4
 exact Ty.ext h3 (of_decide_eq_true h4) h2
theorem Inv2.skip {w':World} {v':Value} (h:Inv2 w1 B mb a0 b0 wc w v (p::r) F) (hn:nodesB p.x p.y=true) {P Q:Pl} {u:Value} (hP:PlAt w1 B P p.x.args) (hQ:PlAt w1 B Q p.y.args) (hF:F (P,Q)=some u)
  (hown:w'.ownsRow B 243 6 v' r.length (pCells r)) (hkeep:PlWd w1 B mb w') (hcall:Below wc.heap.size wc w') (hkn:Known pl2Val (Pl2Ok w1 B mb) w' mb F) (hB:B≤w'.heap.size):Inv2 w1 B mb a0 b0 wc w' v' r F:=by
 have hsz:=sizeTy_eq p.x
 have hp:(∀ q ∈ r,sizeTy q.x≤sizeTys p.x.args→q.x=q.y)→p.x=p.y:=fun hr=>same_of hn (h.memo P Q _ _ u hF hP hQ fun q hq hs=>by
  rcases List.mem_cons.1 hq with rfl | hq
  ·omega
  ·exact hr q hq hs)
 refine { own:=hown,keep:=hkeep,call:=hcall,known:=hkn,ok:=fun q hq=>h.ok q (List.mem_cons_of_mem _ hq),fwd:=fun hr=>h.fwd fun q hq=>?_,bwd:=fun e q hq=>h.bwd e q (List.mem_cons_of_mem _ hq),vals:=h.vals,memo:=fun P' Q' l m u' hF' hl hm hr=>h.memo P' Q' l m u' hF' hl hm fun q hq hs=>?_,cnt:=by have:=h.cnt;rw [pSize] at this;omega,size:=hB }
 ·rcases List.mem_cons.1 hq with rfl | hq
  ·exact hp fun q' hq' _=>hr q' hq'
  ·exact hr q hq
 ·rcases List.mem_cons.1 hq with rfl | hq
  ·exact hp fun q' hq' hs'=>hr q' hq' (by omega)
  ·exact hr q hq hs
structure Kids (w1:World) (B:Nat) (l m:List Ty) (k:Nat) (ks:List Pr):Prop where
 all:∀ i,(h1:i<l.length)→(h2:i<m.length)→i<k→∃ q ∈ ks,q.x=l[i]∧q.y=m[i]
 only:∀ q ∈ ks,∃ i,∃ (h1:i<l.length) (h2:i<m.length),q.x=l[i]∧q.y=m[i]
 ok:∀ q ∈ ks,PrOk w1 B q
 size:pSize ks=sizeTys (l.take k)
 len:ks.length=k
theorem Kids.nil (w1:World) (B:Nat) (l m:List Ty):Kids w1 B l m 0 []:=⟨fun _ _ _ h=>absurd h (Nat.not_lt_zero _),fun q h=>absurd h (by simp),fun q h=>absurd h (by simp),by simp [pSize,sizeTys],rfl⟩
theorem Kids.snoc {l m:List Ty} {k:Nat} {ks:List Pr} (h:Kids w1 B l m k ks) (h1:k<l.length) (h2:k<m.length) (q:Pr) (hx:q.x=l[k]) (hy:q.y=m[k]) (hq:PrOk w1 B q):Kids w1 B l m (k+1) (q::ks):=by
 refine ⟨fun i i1 i2 hi=>?_,fun q' hq'=>?_,fun q' hq'=>?_,?_,by rw [List.length_cons,h.len]⟩
 ·by_cases e:i=k
  ·subst e
   exact ⟨q,List.mem_cons_self,hx,hy⟩
  ·obtain ⟨q',a,b⟩:=h.all i i1 i2 (by omega)
   exact ⟨q',List.mem_cons_of_mem _ a,b⟩
 ·rcases List.mem_cons.1 hq' with rfl | hq'
  ·exact ⟨k,h1,h2,hx,hy⟩
  ·exact h.only q' hq'
 ·rcases List.mem_cons.1 hq' with rfl | hq'
  ·exact hq
  ·exact h.ok q' hq'
 ·rw [pSize,h.size,sizeTys_take l k h1,hx]
  omega
theorem Inv2.push {w':World} {v':Value} (h:Inv2 w1 B mb a0 b0 wc w v (p::r) F) (hn:nodesB p.x p.y=true) (hl:p.x.args.length=p.y.args.length) {P Q:Pl} (hP:PlAt w1 B P p.x.args) (hQ:PlAt w1 B Q p.y.args) {ks:List Pr} (hk:Kids w1 B p.x.args p.y.args p.x.args.length ks)
  (hown:w'.ownsRow B 243 6 v' (ks++r).length (pCells (ks++r))) (hkeep:PlWd w1 B mb w') (hcall:Below wc.heap.size wc w') (hkn:Known pl2Val (Pl2Ok w1 B mb) w' mb (put F (P,Q) (.bool true))) (hB:B≤w'.heap.size):Inv2 w1 B mb a0 b0 wc w' v' (ks++r) (put F (P,Q) (.bool true)):=by
 have hsz:=sizeTy_eq p.x
 have hkids:(∀ q ∈ ks,q.x=q.y)→p.x.args=p.y.args:=fun hq=>List.ext_getElem hl fun i i1 i2=>by
  obtain ⟨q,h1,h2,h3⟩:=hk.all i i1 i2 i1
  rw [← h2,← h3]
  exact hq q h1
 have hsmall:∀ q ∈ ks,sizeTy q.x≤sizeTys p.x.args:=fun q hq=>by
  obtain ⟨i,i1,i2,h2,_⟩:=hk.only q hq
  rw [h2]
  have h3:=sizeTys_take p.x.args i i1
  have h4:=sizeTys_le p.x.args (i+1)
  omega
 have happ:∀ a b:List Pr,pSize (a++b)=pSize a+pSize b:=fun a b=>by
  induction a with
  | nil=>simp [pSize]
  | cons x a ih=>
   rw [List.cons_append,pSize,pSize,ih]
   omega
 refine { own:=hown,keep:=hkeep,call:=hcall,known:=hkn,ok:=fun q hq=>?_,fwd:=fun hr=>h.fwd fun q hq=>?_,bwd:=fun e q hq=>?_,vals:=fun k u hu=>?_,memo:=fun P' Q' l m u' hF' hl' hm' hr=>?_,cnt:=?_,size:=hB }
 ·rcases List.mem_append.1 hq with hq | hq
  ·exact hk.ok q hq
  ·exact h.ok q (List.mem_cons_of_mem _ hq)
 ·rcases List.mem_cons.1 hq with rfl | hq
  ·exact same_of hn (hkids fun q' hq'=>hr q' (List.mem_append.2 (.inl hq')))
  ·exact hr q (List.mem_append.2 (.inr hq))
 ·rcases List.mem_append.1 hq with hq | hq
  ·obtain ⟨i,i1,i2,h2,h3⟩:=hk.only q hq
   have he:=h.bwd e p List.mem_cons_self
   rw [h2,h3]
   have:p.x.args[i]?=p.y.args[i]?:=by rw [he]
   rw [List.getElem?_eq_getElem i1,List.getElem?_eq_getElem i2] at this
   exact Option.some.inj this
  ·exact h.bwd e q (List.mem_cons_of_mem _ hq)
 ·by_cases e:k=(P,Q)
  ·subst e
   rw [put_same] at hu
   exact (Option.some.inj hu).symm
  ·rw [put_other _ _ _ _ e] at hu
   exact h.vals k u hu
 ·by_cases e:(P',Q')=(P,Q)
  ·cases e
   have e1:=hl'.uniq hP
   have e2:=hm'.uniq hQ
   subst e1 e2
   exact hkids fun q hq=>hr q (List.mem_append.2 (.inl hq)) (hsmall q hq)
  ·rw [put_other _ _ _ _ e] at hF'
   refine h.memo P' Q' l m u' hF' hl' hm' fun q hq hs=>?_
   rcases List.mem_cons.1 hq with rfl | hq
   ·exact same_of hn (hkids fun q' hq'=>hr q' (List.mem_append.2 (.inl hq')) (by have:=hsmall q' hq';omega))
   ·exact hr q (List.mem_append.2 (.inr hq)) hs
 ·have h1:=h.cnt
  rw [pSize] at h1
  rw [happ,hk.size,List.take_length]
  omega
end
theorem row_top6 {w:World} {B n:Nat} {T:TypeId} {v:Value} {xs:List Value} {a b c d e f:Value} (h:w.ownsRow B T 6 v (n+1) (xs++[a,b,c,d,e,f])) (hx:xs.length=n * 6):
  ∃ q cap cur,v=.slice (some ⟨q,0,none⟩) (n+1) cap∧B≤q∧Whole1 w q T cur∧n+1≤cap∧w.ownsRow B T 6 (.slice (some ⟨q,0,none⟩) n cap) n xs∧cur[n * 6]?=some a∧cur[n * 6+1]?=some b∧cur[n * 6+2]?=some c∧cur[n * 6+3]?=some d∧cur[n * 6+4]?=some e∧cur[n * 6+5]?=some f:=by
 rcases h.2 with ⟨_,h0⟩ | ⟨q,cap,cur,rfl,h2,h3,h4,h5,h6,h7⟩
 ·omega
 ·have hi:∀ i,i<(n+1) * 6→cur[i]?=(xs++[a,b,c,d,e,f])[i]?:=fun i hi=>by
   rw [← h7,List.getElem?_take,if_pos hi]
   simp
  have htk:cur.toList.take (n * 6)=xs:=by
   have:cur.toList.take (n * 6)=(cur.toList.take ((n+1) * 6)).take (n * 6):=by rw [List.take_take,Nat.min_eq_left (by omega)]
   rw [this,h7,List.take_append_of_le_length (by omega),← hx,List.take_length]
  have hc:∀ j,j<6→cur[n * 6+j]?=[a,b,c,d,e,f][j]?:=fun j hj=>by
   rw [hi _ (by omega),List.getElem?_append_right (by omega),hx,show n * 6+j - n * 6=j by omega]
  exact ⟨q,cap,cur,rfl,h2,h3,h4,⟨hx,.inr ⟨q,cap,cur,rfl,h2,h3,by omega,h5,h6,htk⟩⟩,hc 0 (by omega),hc 1 (by omega),hc 2 (by omega),hc 3 (by omega),hc 4 (by omega),hc 5 (by omega)⟩
end Go.Proofs.YtfnblkcmcfofoaaGreatDoor
namespace Go.Proofs.YtfnblkcmcfofoaaGreatDoor
set_option maxRecDepth 100000
open Go.RowKit
theorem Inv2.start {wc w3 w1:World} {a b:Ty} {p:Pr} (hx:p.x=a) (hy:p.y=b) (hp:PrOk wc wc.heap.size p) (hsz:sizeTy a≤2000000) (hb3:Below wc.heap.size wc w3) (hs3:w3.heap.size=wc.heap.size+2)
  (hw1:(w3.alloc (.map #[] 0)).alloc (.cells (prCells p).toArray 243)=w1):
  Inv2 w1 (wc.heap.size+3) (wc.heap.size+2) a b wc w1 (.slice (some ⟨wc.heap.size+2+1,0,none⟩) 1 1) [p] (fun _=>none):=by
 have hs4:(w3.alloc (.map #[] 0)).heap.size=wc.heap.size+3:=by simp [hs3]
 have hb1:Below w3.heap.size w3 w1:=by
  rw [← hw1]
  exact ((Below.refl _ _).alloc (Nat.le_refl _) _).alloc (by simp) _
 have hs1:w1.heap.size=wc.heap.size+4:=by rw [← hw1];simp [hs3]
 have hcall:Below wc.heap.size wc w1:=hb3.trans (hb1.mono (by omega))
 have hmap:w1.heap[wc.heap.size+2]?=some (.map #[] 0):=by
  rw [← hw1]
  refine (Below.heap_alloc _ _ _ (by omega)).trans ?_
  have:=heap_alloc_new w3 (.map #[] 0)
  rw [hs3] at this
  exact this
 have htop:Whole1 w1 (wc.heap.size+3) 243 (prCells p).toArray:=by
  rw [← hw1]
  have:=Whole1.new (w3.alloc (.map #[] 0)) 243 (prCells p).toArray
  rw [hs4] at this
  exact this
 have hok:PrOk w1 (wc.heap.size+3) p:=⟨(hp.1.keep fun b hb _=>hcall.block b hb).wide fun b hb=>by omega,(hp.2.keep fun b hb _=>hcall.block b hb).wide fun b hb=>by omega⟩
 refine { own:=⟨rfl,.inr ⟨wc.heap.size+3,1,_,rfl,Nat.le_refl _,htop,Nat.le_refl _,by decide,rfl,rfl⟩⟩,keep:=fun _ _ _=>rfl,call:=hcall,known:=⟨#[],0,hmap,fun e he=>absurd he (by simp),fun k v h=>(by cases h),List.Pairwise.nil⟩,ok:=?_,fwd:=?_,bwd:=?_,vals:=fun _ _ h=>(by cases h),memo:=fun _ _ _ _ _ h=>(by cases h),cnt:=by simp [pSize,hx];exact hsz,size:=by omega }
 ·intro q hq
  have:q=p:=by simpa using hq
  rw [this]
  exact hok
 ·intro h
  rw [← hx,← hy]
  exact h p (by simp)
 ·intro e q hq
  have:q=p:=by simpa using hq
  rw [this,hx,hy]
  exact e
theorem TyIn.cellsOnly {w:World} {S:Nat→Prop} {v:Value} {t:Ty} (h:TyIn w S v t):TyIn w (fun b=>S b∧∃ t cs,Whole1 w b t cs) v t:=by
 induction h with
 | mk gl ga vs Ss hn hz hm hls hes hne hsub hdis _ ih=>
  refine .mk gl ga vs (fun i b=>Ss i b∧∃ t cs,Whole1 w b t cs) hn hz hm (hls.imp id fun ⟨h1,h2,h3⟩=>⟨h1,⟨h2,?_⟩,h3⟩) (hes.imp id fun ⟨h1,h2,h3⟩=>⟨h1,⟨h2,?_⟩,h3⟩) hne (fun i hi b hb=>⟨⟨(hsub i hi b hb.1).1,hb.2⟩,(hsub i hi b hb.1).2⟩) (fun i j hi hj hij b hb hb'=>hdis i j hi hj hij b hb.1 hb'.1) ih
  ·obtain ⟨cs,h4,_⟩:=h3
   exact ⟨_,cs,h4⟩
  ·obtain ⟨cs,h4,_⟩:=h3
   exact ⟨_,cs,h4⟩
theorem TyIn.move {w1 w':World} {B mb:Nat} {v:Value} {t:Ty} (h:TyIn w1 (fun b=>b<B) v t) (hmb:∀ (t:TypeId) (cs:Array Value),¬ Whole1 w1 mb t cs) (hk:PlWd w1 B mb w'):TyAt w' w'.heap.size v t:=
 (h.cellsOnly.keep fun b hb _=>hk b hb.1 fun e=>by
  obtain ⟨_,t,cs,h1⟩:=hb
  exact hmb t cs (e ▸ h1)).here
theorem plP_form (k:Pl):∃ o m,plP k=.pointer o∧plN k=.int .i64 m:=by
 match k with
 | none=>exact ⟨_,_,rfl,rfl⟩
 | some (g,n)=>exact ⟨_,_,rfl,rfl⟩
theorem infoPair:(Tryz.prog.info? 243).map (fun i=>(i.zero,i.size,i.bytes))=some (some (.agg #[.int .i64 0,.slice none 0 0,.slice none 0 0,.int .i64 0,.slice none 0 0,.slice none 0 0]),6,112):=by kernel_rfl
theorem news6 (w:World) (t:TypeId) (p:Pr):CellsAt (w.alloc (.cells (prCells p).toArray t)) (some ⟨w.heap.size,0,none⟩) (prCells p):=by
 refine .inr ⟨_,rfl,fun j u hj=>?_⟩
 rw [WideShapes.add_plain,World.cell?_alloc_at _ _ _ _ rfl,Nat.zero_add]
 simpa using hj
theorem ones6 (p:Pr):∀ u ∈ prCells p,u.oneCell'=true:=by
 intro u hu
 simp [prCells] at hu
 rcases hu with rfl | rfl | rfl | rfl | rfl | rfl<;>rfl
theorem pSize_append:∀ a b:List Pr,pSize (a++b)=pSize a+pSize b
 | [],b=>by simp [pSize]
 | x::a,b=>by
  rw [List.cons_append,pSize,pSize,pSize_append a b]
  omega
structure Mid (w1:World) (B mb:Nat) (wc w:World) (v:Value) (n:Nat) (xs:List Value) (F:Pl×Pl→Option Value):Prop where
 own:w.ownsRow B 243 6 v n xs
 keep:PlWd w1 B mb w
 call:Below wc.heap.size wc w
 known:Known pl2Val (Pl2Ok w1 B mb) w mb F
 size:B≤w.heap.size
theorem Mid.below {w1 wc w w':World} {B mb n:Nat} {v:Value} {xs:List Value} {F:Pl×Pl→Option Value} (h:Mid w1 B mb wc w v n xs F) (hb:Below w.heap.size w w'):Mid w1 B mb wc w' v n xs F:=
 {own:=owns_keep4 h.own fun g hg=>hb.block g (h.own.lt g hg).2
  keep:=fun g hg hne=>(hb.block g (Nat.lt_of_lt_of_le hg h.size)).trans (h.keep g hg hne)
  call:=h.call.trans (hb.mono h.call.size)
  known:=h.known.keep (hb.block mb h.known.lt)
  size:=Nat.le_trans h.size hb.size }
set_option maxHeartbeats 4000000 in
theorem equalTrees_any (a b:Ty) (va vb:Value) (w:World) (ha:OwnT w va a) (hb:OwnT w vb b) (hsz:sizeTy a≤2000000):
  Calls Tryz.prog 211 #[va,vb,.func (.func 175) #[] #[],.func (.func 212) #[] #[]] w (BoolIs (eqTyB a b) w):=by
 obtain ⟨L,lc,A,ac,rfl,_⟩:=ha.open
 obtain ⟨L',lc',A',ac',rfl,_⟩:=hb.open
 obtain ⟨S,hva,hSa⟩:=ha
 obtain ⟨S',hvb,hSb⟩:=hb
 have hmm:=@run_makeMap Tryz.prog
 obtain ⟨hb2,p2,r2,hs2⟩:=boxes2 w 27 27 #[.int .i64 a.kind,.slice L a.labels.length lc,.slice A a.args.length ac] #[.int .i64 b.kind,.slice L' b.labels.length lc',.slice A' b.args.length ac']
 have HP0:Hid (PrOk w w.heap.size ⟨a,b,L,lc,A,ac,L',lc',A',ac'⟩):=Lib.hid ⟨hva.wide fun b h=>hSa b h,hvb.wide fun b h=>hSb b h⟩
 clear hva hvb hSa hSb
 go_enter Tryz.func211,Tryz.ntmps211
 go_upto_region 1 with fail
 generalize (w.alloc (.cells #[.int .i64 a.kind,.slice L a.labels.length lc,.slice A a.args.length ac] 27)).alloc (.cells #[.int .i64 b.kind,.slice L' b.labels.length lc',.slice A' b.args.length ac'] 27)=w2 at *
 obtain ⟨q0,q1,q2⟩:=p2.c3
 obtain ⟨q3,q4,q5⟩:=r2.c3
 clear p2 r2
 go_wp2
 generalize hw1:(w2.alloc (.map #[] 0)).alloc _=w1
 have hstart:=Inv2.start rfl rfl HP0.out hsz hb2 hs2 hw1
 have hs1:w1.heap.size=w.heap.size+4:=by rw [← hw1];simp [hs2]
 have hmb:∀ (t:TypeId) (cs:Array Value),¬ Whole1 w1 (w.heap.size+2) t cs:=by
  obtain ⟨es,clock,h1,_⟩:=hstart.known
  intro t cs h
  unfold Whole1 at h
  rw [h1] at h
  cases h
 have HMB:=Lib.hid hmb
 clear HP0 hw1 hb2 hs2 q0 q1 q2 q3 q4 q5 hmb hmm
 go_loopg [10] (pSize [⟨a,b,L,lc,A,ac,L',lc',A',ac'⟩]) (fun gn v wr=>∃ stk F,Inv2 w1 (w.heap.size+3) (w.heap.size+2) a b w wr v stk F∧pSize stk=gn)
 case atStart=>exact ⟨_,_,hstart,rfl⟩
 case round=>
  clear hstart
  obtain ⟨stk,F,hI,hmu⟩:=hrel
  cases stk with
  | nil=>
   have hr:=Lib.hid (eqTyB_yes (hI.fwd (by simp)))
   have hc:=Lib.hid hI.call
   have hv:∃ B c,u10=.slice B 0 c:=by
    rcases hI.own.2 with ⟨rfl,_⟩ | ⟨g,cap,cur,rfl,_⟩
    ·exact ⟨_,_,rfl⟩
    ·exact ⟨_,_,rfl⟩
   obtain ⟨B,c,rfl⟩:=hv
   clear hI hmu
   go_wp2
   go_ret
   exact ⟨by rw [hr.out];rfl,hc.out⟩
  | cons p r=>
   have HI:=Lib.hid hI
   have HMU:=Lib.hid hmu
   have hok:=hI.ok p (by simp)
   have hcnt:=hI.cnt
   rw [pSize] at hcnt
   have hrl:=pSize_len r
   have hwz:=hI.size
   have hcz:=hI.call.size
   obtain ⟨q,cap,cur,rfl,hq,hW,hcap,hown,d0,d1,d2,d3,d4,d5⟩:=row_top6 hI.own (pCells_len r)
   have HOWN:=Lib.hid hown
   have HOK:=Lib.hid hok
   have hql:=hW.lt
   obtain ⟨n,hn⟩:∃ n,n=r.length:=⟨_,rfl⟩
   have HN:=Lib.hid hn
   rw [← hn] at d0 d1 d2 d3 d4 d5 hcap hrl ⊢
   have e0:wr.cell? ⟨q,n * 6,none⟩=some (.int .i64 p.x.kind):=(hW.cell _).trans d0
   have e1:wr.cell? ⟨q,n * 6+1,none⟩=some (.slice p.L p.x.labels.length p.l):=(hW.cell _).trans d1
   have e2:wr.cell? ⟨q,n * 6+2,none⟩=some (.slice p.A p.x.args.length p.a):=(hW.cell _).trans d2
   have e3:wr.cell? ⟨q,n * 6+3,none⟩=some (.int .i64 p.y.kind):=(hW.cell _).trans d3
   have e4:wr.cell? ⟨q,n * 6+4,none⟩=some (.slice p.L' p.y.labels.length p.l'):=(hW.cell _).trans d4
   have e5:wr.cell? ⟨q,n * 6+5,none⟩=some (.slice p.A' p.y.args.length p.a'):=(hW.cell _).trans d5
   have hlt0:(n:Int)<(n:Int)+1:=by omega
   have hlt1:(n:Int)+1 > 0:=by omega
   have hnc:(n:Int)≤(cap:Int):=by omega
   clear hI hmu hown hok hW d0 d1 d2 d3 d4 d5 hn
   have hM:Hid (Mid w1 (w.heap.size+3) (w.heap.size+2) w wr (.slice (some ⟨q,0,none⟩) n cap) n (pCells r) F):=Lib.hid ⟨by have:=HOWN.out;rw [← HN.out] at this;exact this,HI.out.keep,HI.out.call,HI.out.known,HI.out.size⟩
   go_upto_region 6 with fail
   have hbx:=(Below.refl wr.heap.size wr).alloc (Nat.le_refl _) (.cells #[.int .i64 p.x.kind,.slice p.L p.x.labels.length p.l,.slice p.A p.x.args.length p.a,.int .i64 p.y.kind,.slice p.L' p.y.labels.length p.l',.slice p.A' p.y.args.length p.a'] 243)
   have MA:=Lib.hid (hM.out.below hbx)
   have hPB:=Whole1.new wr 243 #[.int .i64 p.x.kind,.slice p.L p.x.labels.length p.l,.slice p.A p.x.args.length p.a,.int .i64 p.y.kind,.slice p.L' p.y.labels.length p.l',.slice p.A' p.y.args.length p.a']
   clear e0 e1 e2 e3 e4 e5 hbx hM
   generalize wr.alloc (.cells #[.int .i64 p.x.kind,.slice p.L p.x.labels.length p.l,.slice p.A p.x.args.length p.a,.int .i64 p.y.kind,.slice p.L' p.y.labels.length p.l',.slice p.A' p.y.args.length p.a'] 243)=wa at *
   have hpbl:=hPB.lt
   have k0:wa.cell? ⟨wr.heap.size,0,none⟩=some (.int .i64 p.x.kind):=hPB.cell 0
   have k1:wa.cell? ⟨wr.heap.size,1,none⟩=some (.slice p.L p.x.labels.length p.l):=hPB.cell 1
   have k2:wa.cell? ⟨wr.heap.size,2,none⟩=some (.slice p.A p.x.args.length p.a):=hPB.cell 2
   have k3:wa.cell? ⟨wr.heap.size,3,none⟩=some (.int .i64 p.y.kind):=hPB.cell 3
   have k4:wa.cell? ⟨wr.heap.size,4,none⟩=some (.slice p.L' p.y.labels.length p.l'):=hPB.cell 4
   have k5:wa.cell? ⟨wr.heap.size,5,none⟩=some (.slice p.A' p.y.args.length p.a'):=hPB.cell 5
   have ed:=(Below.refl wa.heap.size wa).drew
   have keepf:∀ x,Below wa.heap.size wa x→x.cell? ⟨wr.heap.size,0,none⟩=some (.int .i64 p.x.kind)∧x.cell? ⟨wr.heap.size,1,none⟩=some (.slice p.L p.x.labels.length p.l)∧x.cell? ⟨wr.heap.size,2,none⟩=some (.slice p.A p.x.args.length p.a)∧x.cell? ⟨wr.heap.size,3,none⟩=some (.int .i64 p.y.kind)∧x.cell? ⟨wr.heap.size,4,none⟩=some (.slice p.L' p.y.labels.length p.l')∧x.cell? ⟨wr.heap.size,5,none⟩=some (.slice p.A' p.y.args.length p.a'):=fun x hx=>
    ⟨kC hx k0 hpbl,kC hx k1 hpbl,kC hx k2 hpbl,kC hx k3 hpbl,kC hx k4 hpbl,kC hx k5 hpbl⟩
   have KF:=Lib.hid keepf
   obtain ⟨j0,j1,j2,j3,j4,j5⟩:=keepf wa.drew ed
   clear keepf
   go_region_held3 (fun x=>x.cell? ⟨wr.heap.size,0,none⟩=some (.int .i64 p.x.kind)∧x.cell? ⟨wr.heap.size,1,none⟩=some (.slice p.L p.x.labels.length p.l)∧x.cell? ⟨wr.heap.size,2,none⟩=some (.slice p.A p.x.args.length p.a)∧x.cell? ⟨wr.heap.size,3,none⟩=some (.int .i64 p.y.kind)∧x.cell? ⟨wr.heap.size,4,none⟩=some (.slice p.L' p.y.labels.length p.l')∧x.cell? ⟨wr.heap.size,5,none⟩=some (.slice p.A' p.y.args.length p.a')∧Below wa.heap.size wa x)
    (first | (with_reducible exact ⟨j0,j1,j2,j3,j4,j5,ed⟩) | (with_reducible exact ⟨m0,m1,m2,m3,m4,m5,hbB⟩) | (with_reducible exact ⟨n0,n1,n2,n3,n4,n5,hbA⟩))
    (first | (go_at_call 175;refine (argsOf_any _ _ _ _).mono ?_;rintro e wA ⟨rfl,hb1⟩;have hbA:=ed.trans hb1;obtain ⟨n0,n1,n2,n3,n4,n5⟩:=KF.out wA hbA) | (go_at_call 175;refine (argsOf_any _ _ _ _).mono ?_;rintro e wB ⟨rfl,hb2⟩;have hbB:=hbA.trans (hb2.mono hbA.size);obtain ⟨m0,m1,m2,m3,m4,m5⟩:=KF.out wB hbB))
   clear j0 j1 j2 j3 j4 j5 k0 k1 k2 k3 k4 k5 n0 n1 n2 n3 n4 n5
   have MB:=Lib.hid (MA.out.below hbB)
   have hPB2:=hPB.below hbB hpbl
   clear hbA hb1 hb2 hPB hpbl KF MA ed hbB
   have hpbl:=hPB2.lt
   have ht1:=HOK.out.1.move HMB.out MB.out.keep
   have ht2:=HOK.out.2.move HMB.out MB.out.keep
   have HEQ:=Lib.hid (equalNodes_any p.x p.y _ _ wB ht1 ht2)
   clear ht1 ht2
   have hlm:=HOK.out.1.args_of.2.1
   unfold maxLen at hlm
   cases hnb:nodesB p.x p.y
   ·rw [hnb] at HEQ
    have hr:=Lib.hid (show eqTyB a b=false by
     apply eqTyB_no
     intro e
     have h1:=HI.out.bwd e p (by simp)
     rw [h1] at hnb
     unfold nodesB textsB at hnb
     simp at hnb)
    clear hnb
    go_wp2_with fail
    refine HEQ.out.mono ?_
    rintro e wC ⟨rfl,hb3⟩
    have hcall:=MB.out.call
    go_wp2
    go_ret
    exact ⟨by rw [hr.out];rfl,hcall.trans (hb3.mono hcall.size)⟩
   ·rw [hnb] at HEQ
    have HNB:=Lib.hid hnb
    clear hnb
    by_cases hl:p.x.args.length=p.y.args.length
    ·have hneq:((p.x.args.length:Int) != (p.y.args.length:Int))=false:=by rw [bne_eq_false_iff_eq];omega
     have HL:=Lib.hid hl
     obtain ⟨P,hP,hPok,hPc⟩:=place_of HMB.out HOK.out.1.args_of.2 p.a
     obtain ⟨Q,hQ,hQok,hQc⟩:=place_of HMB.out HOK.out.2.args_of.2 p.a'
     obtain ⟨o1,m1,ho1,hm1⟩:=plP_form P
     obtain ⟨o2,m2,ho2,hm2⟩:=plP_form Q
     have hkey:=Lib.hid (show pl2Val (P,Q)=.agg #[.pointer o1,.int .i64 m1,.pointer o2,.int .i64 m2] by unfold pl2Val;rw [ho1,hm1,ho2,hm2])
     have hv1:=Lib.hid (show plVal P=.agg #[.pointer o1,.int .i64 m1] by rw [plVal_eq,ho1,hm1])
     have hv2:=Lib.hid (show plVal Q=.agg #[.pointer o2,.int .i64 m2] by rw [plVal_eq,ho2,hm2])
     clear ho1 hm1 ho2 hm2
     have HPC:=Lib.hid hPc
     have HQC:=Lib.hid hQc
     have HPA:=Lib.hid hP
     have HQA:=Lib.hid hQ
     have HPO:=Lib.hid hPok
     have HQO:=Lib.hid hQok
     clear hl hP hPok hPc hQ hQok hQc
     go_wp2_with fail
     refine HEQ.out.mono ?_
     rintro e wC ⟨rfl,hb3⟩
     have MC:=Lib.hid (MB.out.below hb3)
     clear MB hb3 hPB2 hpbl HEQ
     go_wp2_with fail
     refine (HPC.out wC).mono ?_
     rintro e wD ⟨rfl,hb4⟩
     rw [hv1.out]
     have MD:=Lib.hid (MC.out.below hb4)
     clear MC hb4
     go_wp2_with fail
     refine (HQC.out wD).mono ?_
     rintro e wE ⟨rfl,hb5⟩
     rw [hv2.out]
     have ME:=Lib.hid (MD.out.below hb5)
     clear MD hb5
     go_upto_region 10 with fail
     have hb6:=(Below.refl wE.heap.size wE).alloc (Nat.le_refl _) (.cells #[.pointer o1,.int .i64 m1,.pointer o2,.int .i64 m2] 245)
     have hM6:=ME.out.below hb6
     have hKB:=Whole1.new wE 245 #[.pointer o1,.int .i64 m1,.pointer o2,.int .i64 m2]
     clear ME hb6
     generalize wE.alloc (.cells #[.pointer o1,.int .i64 m1,.pointer o2,.int .i64 m2] 245)=w6 at *
     obtain ⟨g0,g1,g2,g3⟩:=hKB.c4
     have hz:(zeroValue 4).run Tryz.prog w6=.ok (.bool false) w6:=by kernel_rfl
     have hlook:=hM6.known.look1 (pl2Kit w1 (w.heap.size+3) (w.heap.size+2)) Tryz.underlying242 hz hM6.keep (k:=(P,Q)) ⟨HPO.out,HQO.out⟩
     rw [hkey.out] at hlook
     have M6:=Lib.hid hM6
     clear hz hM6
     cases hF:F (P,Q) with
     | some u=>
      have hu:=HI.out.vals _ _ hF
      subst hu
      have HFK:=Lib.hid hF
      rw [hF] at hlook
      have hl2:(Instr.lookup 242 (.map (some (w.heap.size+2))) (.agg #[.pointer o1,.int .i64 m1,.pointer o2,.int .i64 m2]) false).run Tryz.prog w6=.ok (.bool true) w6:=hlook
      clear hlook hF hKB
      go_wp2
      go_roundg (pSize r)
      case measure=>
       have:=sizeTy_eq p.x
       rw [← HMU.out,pSize]
       omega
      case rel=>
       have hM:=M6.out
       exact ⟨r,F,HI.out.skip HNB.out HPA.out HQA.out HFK.out (by have:=hM.own;rw [HN.out] at this ⊢;exact this) hM.keep hM.call hM.known hM.size,rfl⟩
     | none=>
      rw [hF] at hlook
      have hl2:(Instr.lookup 242 (.map (some (w.heap.size+2))) (.agg #[.pointer o1,.int .i64 m1,.pointer o2,.int .i64 m2]) false).run Tryz.prog w6=.ok (.bool false) w6:=hlook
      obtain ⟨w7,hrun7,hkn7,ho7⟩:=M6.out.known.store (pl2Kit w1 (w.heap.size+3) (w.heap.size+2)) Tryz.underlying242 M6.out.keep (k:=(P,Q)) ⟨HPO.out,HQO.out⟩ (.bool true)
      rw [hkey.out] at hrun7
      have hM7:Hid (Mid w1 (w.heap.size+3) (w.heap.size+2) w w7 (.slice (some ⟨q,0,none⟩) n cap) n (pCells r) (put F (P,Q) (.bool true))):=Lib.hid {
       own:=owns_keep4 M6.out.own fun g hg=>ho7.1.block g (M6.out.own.lt g hg).2 (fun e=>by have:=(M6.out.own.lt g hg).1;injection e with e;omega)
       keep:=fun g hg hne=>(ho7.1.block g (Nat.lt_of_lt_of_le hg M6.out.size) (fun e=>hne (Option.some.inj e))).trans (M6.out.keep g hg hne)
       call:=M6.out.call.grown ho7.1 M6.out.call.size (fun k hk=>by cases hk;omega)
       known:=hkn7
       size:=by have:=M6.out.size;have:=ho7.2;omega }
      clear hlook hF hkn7 ho7 M6 hKB
      obtain ⟨i1,hi1,hy0,hy1,hy2⟩:=info_parts infoPair
      have HXA:=Lib.hid HOK.out.1.args_of.2
      have HYA:=Lib.hid HOK.out.2.args_of.2
      have hpx:=sizeTy_eq p.x
      go_upto_region 12 with fail
      clear hl2 hrun7 g0 g1 g2 g3
      go_wp2
      go_loopw [10,69] (fun v i wr=>∃ (k:Nat) (ks:List Pr),k≤p.x.args.length∧i=.int .i64 k∧Kids w1 (w.heap.size+3) p.x.args p.y.args k ks∧Mid w1 (w.heap.size+3) (w.heap.size+2) w wr v (ks++r).length (pCells (ks++r)) (put F (P,Q) (.bool true))) (fun _ i _=>p.x.args.length - (intOf i).toNat)
      case atStart=>exact ⟨0,[],Nat.zero_le _,rfl,Kids.nil _ _ _ _,by have:=hM7.out;rw [HN.out] at this ⊢;exact this⟩
      case round=>
       obtain ⟨k,ks,hk,rfl,hkids,hmid⟩:=hrel
       have HKS:=Lib.hid hkids
       have HMD:=Lib.hid hmid
       have hksl:(ks++r).length=k+n:=by rw [List.length_append,hkids.len,HN.out]
       have hkm:=sizeTys_le p.x.args k
       have hksz:=hkids.size
       have hkl:=pSize_len ks
       have hkl2:=hkids.len
       clear hkids hmid
       by_cases hlt:k<p.x.args.length
       ·have hlt2:k<p.y.args.length:=by have:=HL.out;omega
        have i3:(k:Int)<(p.x.args.length:Int):=by omega
        have i4:(k:Int)<(p.y.args.length:Int):=by omega
        obtain ⟨g1,M1,mc1,N1,nc1,hA1,hgB1,⟨t1,cs1,hw1⟩,x0,x1,x2,hT1⟩:=HXA.out.elem3 k hlt
        obtain ⟨g2,M2,mc2,N2,nc2,hA2,hgB2,⟨t2,cs2,hw2⟩,y0,y1,y2,hT2⟩:=HYA.out.elem3 k hlt2
        have hkp:=fun (o:Nat)=>World.cell?_of_block (w:=w1) (w':=wr) (a:=⟨g1,o,none⟩) (HMD.out.keep g1 hgB1 (fun e=>HMB.out _ _ (e ▸ hw1)))
        have hkp2:=fun (o:Nat)=>World.cell?_of_block (w:=w1) (w':=wr) (a:=⟨g2,o,none⟩) (HMD.out.keep g2 hgB2 (fun e=>HMB.out _ _ (e ▸ hw2)))
        have z0:=(hkp _).trans x0
        have z1:=(hkp _).trans x1
        have z2:=(hkp _).trans x2
        have z3:=(hkp2 _).trans y0
        have z4:=(hkp2 _).trans y1
        have z5:=(hkp2 _).trans y2
        have HT1:=Lib.hid hT1
        have HT2:=Lib.hid hT2
        clear hkp hkp2 x0 x1 x2 y0 y1 y2 hT1 hT2 hw1 hw2
        rw [hA1,hA2]
        go_upto_region 15 with fail
        have hbb:=HMD.out.size
        have hcc:=HMD.out.call.size
        have keepf:∀ x:World,(∀ g,g<w.heap.size+3→x.heap[g]?=wr.heap[g]?)→x.cell? ⟨g1,k * 3,none⟩=some (.int .i64 p.x.args[k].kind)∧x.cell? ⟨g1,k * 3+1,none⟩=some (.slice M1 p.x.args[k].labels.length mc1)∧x.cell? ⟨g1,k * 3+2,none⟩=some (.slice N1 p.x.args[k].args.length nc1)∧x.cell? ⟨g2,k * 3,none⟩=some (.int .i64 p.y.args[k].kind)∧x.cell? ⟨g2,k * 3+1,none⟩=some (.slice M2 p.y.args[k].labels.length mc2)∧x.cell? ⟨g2,k * 3+2,none⟩=some (.slice N2 p.y.args[k].args.length nc2):=fun x hx=>
         ⟨(World.cell?_of_block (a:=⟨g1,k * 3,none⟩) (hx g1 hgB1)).trans z0,(World.cell?_of_block (a:=⟨g1,k * 3+1,none⟩) (hx g1 hgB1)).trans z1,(World.cell?_of_block (a:=⟨g1,k * 3+2,none⟩) (hx g1 hgB1)).trans z2,(World.cell?_of_block (a:=⟨g2,k * 3,none⟩) (hx g2 hgB2)).trans z3,(World.cell?_of_block (a:=⟨g2,k * 3+1,none⟩) (hx g2 hgB2)).trans z4,(World.cell?_of_block (a:=⟨g2,k * 3+2,none⟩) (hx g2 hgB2)).trans z5⟩
        have MD:=Lib.hid (HMD.out.below (w':=wr.drew) ⟨rfl,rfl,rfl,Nat.le_refl _,fun _ _=>rfl⟩)
        have hba:Below wr.heap.size wr (wr.alloc (.cells #[.int .i64 p.x.args[k].kind,.slice M1 p.x.args[k].labels.length mc1,.slice N1 p.x.args[k].args.length nc1,.int .i64 p.y.args[k].kind,.slice M2 p.y.args[k].labels.length mc2,.slice N2 p.y.args[k].args.length nc2] 243)).drew:=((Below.refl wr.heap.size wr).alloc (Nat.le_refl _) _).drew
        have hownA:World.ownsRow (wr.alloc (.cells #[.int .i64 p.x.args[k].kind,.slice M1 p.x.args[k].labels.length mc1,.slice N1 p.x.args[k].args.length nc1,.int .i64 p.y.args[k].kind,.slice M2 p.y.args[k].labels.length mc2,.slice N2 p.y.args[k].args.length nc2] 243)).drew _ _ _ _ _ _:=HMD.out.own.alloc (.cells #[.int .i64 p.x.args[k].kind,.slice M1 p.x.args[k].labels.length mc1,.slice N1 p.x.args[k].args.length nc1,.int .i64 p.y.args[k].kind,.slice M2 p.y.args[k].labels.length mc2,.slice N2 p.y.args[k].args.length nc2] 243)
        obtain ⟨j0,j1,j2,j3,j4,j5⟩:=keepf wr.drew (fun _ _=>rfl)
        obtain ⟨k0,k1,k2,k3,k4,k5⟩:=keepf (wr.alloc (.cells #[.int .i64 p.x.args[k].kind,.slice M1 p.x.args[k].labels.length mc1,.slice N1 p.x.args[k].args.length nc1,.int .i64 p.y.args[k].kind,.slice M2 p.y.args[k].labels.length mc2,.slice N2 p.y.args[k].args.length nc2] 243)).drew (fun g hg=>hba.block g (by omega))
        have hvb:=fun g (hg:u10.ownBlock=some g)=>MD.out.own.lt g hg
        have HVB:=Lib.hid hvb
        have KF:=Lib.hid keepf
        have HBA:=Lib.hid hba
        clear z0 z1 z2 z3 z4 z5 hvb keepf hba
        go_region_held_law (fun x:World=>x.cell? ⟨g1,k * 3,none⟩=some (.int .i64 p.x.args[k].kind)∧x.cell? ⟨g1,k * 3+1,none⟩=some (.slice M1 p.x.args[k].labels.length mc1)∧x.cell? ⟨g1,k * 3+2,none⟩=some (.slice N1 p.x.args[k].args.length nc1)∧x.cell? ⟨g2,k * 3,none⟩=some (.int .i64 p.y.args[k].kind)∧x.cell? ⟨g2,k * 3+1,none⟩=some (.slice M2 p.y.args[k].labels.length mc2)∧x.cell? ⟨g2,k * 3+2,none⟩=some (.slice N2 p.y.args[k].args.length nc2))
         (first | (with_reducible exact ⟨j0,j1,j2,j3,j4,j5⟩) | (with_reducible exact ⟨k0,k1,k2,k3,k4,k5⟩) | (with_reducible exact ⟨s0,s1,s2,s3,s4,s5⟩))
         (first | (refine step_append_cells _ (by rfl) (.tmp 72) (.tmp 82) _ (by rfl) (w.heap.size+3) 243 i1 (.agg #[.int .i64 0,.slice none 0 0,.slice none 0 0,.int .i64 0,.slice none 0 0,.slice none 0 0]) 6 112 Tryz.underlying244 hi1 hy0 hy1 hy2 rfl (by decide) _ (ks++r).length _ (by rfl) hownA (some ⟨wr.heap.size,0,none⟩) 1 1 (prCells ⟨p.x.args[k],p.y.args[k],M1,mc1,N1,nc1,M2,mc2,N2,nc2⟩) (by rfl) rfl (news6 wr _ _) (ones6 _) (by unfold maxLen;omega) (by omega) (by simp;omega) ?_;intro v11 w11 hown11 hg11;have hb11:∀ g,g<w.heap.size+3→w11.heap[g]?=wr.heap[g]?:=fun g hg=>(hg11.block g (by simp;omega) (fun e=>by have:=(HVB.out g e.symm).1;omega)).trans (HBA.out.block g (by omega));obtain ⟨s0,s1,s2,s3,s4,s5⟩:=KF.out w11 hb11))
        clear j0 j1 j2 j3 j4 j5 k0 k1 k2 k3 k4 k5 s0 s1 s2 s3 s4 s5
        have HOWN11:=Lib.hid hown11
        have HG11:=Lib.hid hg11
        have HB11:=Lib.hid hb11
        clear hown11 hg11 hownA hb11
        go_wp2
        go_roundw
        case rel=>
         refine ⟨k+1,⟨p.x.args[k],p.y.args[k],M1,mc1,N1,nc1,M2,mc2,N2,nc2⟩::ks,by omega,by go_num,HKS.out.snoc hlt hlt2 _ rfl rfl ⟨HT1.out,HT2.out⟩,{ own:=HOWN11.out,keep:=fun g hg hne=>(HB11.out g hg).trans (MD.out.keep g hg hne),call:=?_,known:=MD.out.known.keep (HB11.out _ (by omega)),size:=by have:=HG11.out.size;simp at this;omega }⟩
         exact (HMD.out.call.trans (HBA.out.mono hcc)).grown HG11.out (by simp;omega) (fun g hg=>by have:=(HVB.out g hg).1;omega)
        case measure=>simp [intOf];omega
       ·have hke:k=p.x.args.length:=by omega
        subst hke
        go_wp2
        go_roundg (pSize (ks++r))
        case measure=>
         rw [← HMU.out,pSize_append,pSize,hksz,List.take_length]
         omega
        case rel=>
         have hM:=HMD.out
         exact ⟨ks++r,_,HI.out.push HNB.out HL.out HPA.out HQA.out HKS.out hM.own hM.keep hM.call hM.known hM.size,rfl⟩
    ·have hneq:((p.x.args.length:Int) != (p.y.args.length:Int))=true:=by rw [bne_iff_ne];omega
     have hr:=Lib.hid (show eqTyB a b=false by
      apply eqTyB_no
      intro e
      have h1:=HI.out.bwd e p (by simp)
      exact hl (by rw [h1]))
     clear hl
     go_wp2_with fail
     refine HEQ.out.mono ?_
     rintro e wC ⟨rfl,hb3⟩
     have hcall:=MB.out.call
     go_wp2
     go_ret
     exact ⟨by rw [hr.out];rfl,hcall.trans (hb3.mono hcall.size)⟩
end Go.Proofs.YtfnblkcmcfofoaaGreatDoor
namespace Go.Proofs.YtfnblkcmcfofoaaGreatDoor
set_option maxRecDepth 100000
open Go.RowKit
set_option maxHeartbeats 1000000 in
theorem implEqual_any (a b:Ty) (va vb:Value) (w:World) (ha:OwnT w va a) (hb:OwnT w vb b) (hsz:sizeTy a≤2000000):Calls Tryz.prog 198 #[va,vb] w (BoolIs (eqTyB a b) w):=by
 obtain ⟨L,lc,A,ac,rfl,_⟩:=ha.open
 obtain ⟨L',lc',A',ac',rfl,_⟩:=hb.open
 obtain ⟨hb0,p0,q0,hs0⟩:=boxes2 w 27 27 #[.int .i64 a.kind,.slice L a.labels.length lc,.slice A a.args.length ac] #[.int .i64 b.kind,.slice L' b.labels.length lc',.slice A' b.args.length ac']
 have HE:=Lib.hid (equalTrees_any a b _ _ _ (ha.up hb0) (hb.up hb0) hsz)
 clear ha hb hs0
 go_enter Tryz.func198,Tryz.ntmps198
 go_wp2_with fail
 refine HE.out.mono ?_
 rintro e w1 ⟨rfl,hb1⟩
 go_wp2
 go_ret
 exact ⟨rfl,hb0.trans (hb1.mono hb0.size)⟩
end Go.Proofs.YtfnblkcmcfofoaaGreatDoor
