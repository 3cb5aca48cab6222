/- Lemmas: ImplSize. -/
import Derived.Test.YtfnblkcmcfofoaaGreatDoorLawFoci_23
import Derived.Test.YtfnblkcmcfofoaaGreatDoorLawFoci_8
import Derived.Deep.RegionLaw
import Derived.Deep.DeepCutAuto
import Derived.StillTailTactics
import Derived.Deep.RegionHeld3
import Derived.Test.YtfnblkcmcfofoaaGreatDoorLawFoci_6
import Derived.Deep.LoopGhost

namespace Go.Proofs.YtfnblkcmcfofoaaGreatDoor
set_option maxRecDepth 100000
open Go.RowKit
theorem limitedSum_any (a b:Nat) (w:World) (h:a+b≤2 ^ 62):Calls Tryz.prog 203 #[.int .i64 (a:Int),.int .i64 (b:Int)] w fun e w'=>e=.returned (.int .i64 ((a+b:Nat):Int))∧w=w':=by
 have h1:¬ ((a:Int) > 9223372036854775807 - (b:Int)):=by omega
 go_enter Tryz.func203,Tryz.ntmps203
 go_wp2
 go_ret
 exact ⟨by go_num,rfl⟩
def PlaceRet (w:World) (k:Pl) (e:Ending) (w':World):Prop:=e=.returned (plVal k)∧Below w.heap.size w w'
theorem placeOf_nil (A:Option Addr) (c:Nat) (w:World):Calls Tryz.prog 193 #[.slice A 0 c] w (PlaceRet w none):=by
 go_enter Tryz.func193,Tryz.ntmps193
 go_wp2
 refine bodyPost_ret (v:=.agg #[.pointer none,.int .i64 0]) (by simp [results,Tryz.results193,go_sem]) rfl ⟨rfl,(Below.refl _ _).alloc (Nat.le_refl _) _⟩
theorem placeOf_some (g n c:Nat) (w:World) (h:0<n):Calls Tryz.prog 193 #[.slice (some ⟨g,0,none⟩) n c] w (PlaceRet w (some (g,n))):=by
 have h0:((n:Int) == 0)=false:=by rw [beq_eq_false_iff_ne];omega
 have h1:(0:Int)<(n:Int):=by omega
 go_enter Tryz.func193,Tryz.ntmps193
 go_wp2
 refine bodyPost_ret (v:=.agg #[.pointer (some ⟨g,0,none⟩),.int .i64 (n:Int)]) (by simp [results,Tryz.results193,go_sem]) rfl ⟨rfl,(Below.refl _ _).alloc (Nat.le_refl _) _⟩
theorem argsOf_any (a b c:Value) (w:World):Calls Tryz.prog 175 #[.agg #[a,b,c]] w fun e w'=>e=.returned c∧Below w.heap.size w w':=by
 have hb:=(Below.refl w.heap.size w).alloc (Nat.le_refl _) (.cells #[a,b,c] 27)
 obtain ⟨hb0,p0,hs0⟩:=boxes1 w 27 #[a,b,c]
 go_enter Tryz.func175,Tryz.ntmps175
 go_wp2
 go_ret
 exact ⟨rfl,hb⟩
end Go.Proofs.YtfnblkcmcfofoaaGreatDoor
namespace Go.Proofs.YtfnblkcmcfofoaaGreatDoor
set_option maxRecDepth 100000
open Go.RowKit
theorem limitedSum_same (a b:Nat) (w:World) (h:a+b≤2 ^ 62):Calls Tryz.prog 203 #[.int .i64 (a:Int),.int .i64 (b:Int)] w fun e w'=>e=.returned (.int .i64 ((a+b:Nat):Int))∧w'=w:=
 (limitedSum_any a b w h).mono fun _ _ h=>⟨h.1,h.2.symm⟩
def Added (w:World) (g o:Nat) (T:TypeId) (cs:Array Value) (x y:Int) (e:Ending) (w':World):Prop:=
 e=.returned (.tuple #[])∧Whole1 w' g T ((cs.setIfInBounds o (.int .i64 x)).setIfInBounds (o+1) (.int .i64 y))∧w.grownBy w' (some g)
set_option maxHeartbeats 1000000 in
theorem addNode_any (w:World) (g o:Nat) (T:TypeId) (cs:Array Value) (a b s d:Nat) (hW:Whole1 w g T cs) (h0:cs[o]?=some (.int .i64 (a:Int))) (h1:cs[o+1]?=some (.int .i64 (b:Int))) (hab:a+s+1≤2 ^ 62) (hd:d+1≤2 ^ 62):
  Calls Tryz.prog 187 #[.pointer (some ⟨g,o,none⟩),.agg #[.int .i64 (s:Int),.int .i64 (d:Int)]] w (Added w g o T cs ((a+(s+1):Nat):Int) ((max b (d+1):Nat):Int)):=by
 obtain ⟨x,hx⟩:∃ x:Int,x=((a+(s+1):Nat):Int):=⟨_,rfl⟩
 obtain ⟨y,hy⟩:∃ y:Int,y=((d+1:Nat):Int):=⟨_,rfl⟩
 obtain ⟨z,hz⟩:∃ z:Int,z=((max b (d+1):Nat):Int):=⟨_,rfl⟩
 have HS:=Lib.hid (fun W=>(show Calls Tryz.prog 203 #[.int .i64 (a:Int),.int .i64 ((s+1:Nat):Int)] W fun e w'=>e=.returned (.int .i64 x)∧w'=W by rw [hx];exact limitedSum_same a (s+1) W (by omega)))
 have HD:=Lib.hid (fun W=>(show Calls Tryz.prog 203 #[.int .i64 (d:Int),.int .i64 1] W fun e w'=>e=.returned (.int .i64 y)∧w'=W by rw [hy];exact limitedSum_same d 1 W (by omega)))
 have hyz:(if (b:Int)<y then y else (b:Int))=z:=by rw [hy,hz];split<;>omega
 rw [← hx,← hz]
 clear hx hz
 have hb0:=(Below.refl w.heap.size w).alloc (Nat.le_refl _) (.cells #[.int .i64 (s:Int),.int .i64 (d:Int)] 166)
 obtain ⟨_,p0,hs0⟩:=boxes1 w 166 #[.int .i64 (s:Int),.int .i64 (d:Int)]
 have hgl:=hW.lt
 have hW0:=hW.below hb0 hgl
 have hgb:=World.grownBy_alloc w (.cells #[.int .i64 (s:Int),.int .i64 (d:Int)] 166) (some g)
 have hos:o<cs.size:=(Array.getElem?_eq_some_iff.1 h0).1
 have hos1:o+1<cs.size:=(Array.getElem?_eq_some_iff.1 h1).1
 go_enter Tryz.func187,Tryz.ntmps187
 go_upto_region 1 with fail
 generalize w.alloc (.cells #[.int .i64 (s:Int),.int .i64 (d:Int)] 166)=w0 at *
 have c0:w0.cell? ⟨g,o,none⟩=some (.int .i64 (a:Int)):=(hW0.cell o).trans h0
 have c1:w0.cell? ⟨g,o+1,none⟩=some (.int .i64 (b:Int)):=(hW0.cell (o+1)).trans h1
 have f0:w0.frozen? ⟨g,o,none⟩=false:=hW0.free o
 have e0:w0.cell? ⟨w.heap.size,0,none⟩=some (.int .i64 (s:Int)):=p0.cell 0
 have e1:w0.cell? ⟨w.heap.size,1,none⟩=some (.int .i64 (d:Int)):=p0.cell 1
 refine wp_region_still_tail 9 (by kernel_rfl) (by kernel_rfl) ?_
 simp only [List.take_succ_cons,List.take_zero,List.drop_succ_cons,List.drop_zero]
 repeat still_step
 still_call (limitedSum_same s 1 _ (by omega))
 still_call (HS.out _)
 refine wpStill_nil ?_
 change wpList _ _ _ _ _ w0.drew
 have hw1:=hW0.drewN 1
 have hg1:w.grownBy w0.drew (some g):=only_drewN hgb 1
 have p1:=p0.drewN 1
 change Whole1 w0.drew _ _ _ at hw1
 change Whole1 w0.drew _ _ _ at p1
 have g0:=dC c0
 have g1:=dF f0
 clear c0 c1 f0 e0 e1 hb0
 generalize w0.drew=w1 at *
 have hw2:=hw1.set o (.int .i64 x)
 have hg2:=only_set hg1 o (.int .i64 x)
 have hne:w.heap.size≠g:=by omega
 have p2:Whole1 (w1.setCell ⟨g,o,none⟩ (.int .i64 x)) w.heap.size 166 #[.int .i64 (s:Int),.int .i64 (d:Int)]:=(Below.heap_setCell _ _ _ _ hne).trans p1
 have HW:=Lib.hid hw2
 have HG:=Lib.hid hg2
 have hp2:=Lib.hid p2
 clear hW hW0 hw1 hg1 p0 p1 hgb hg2 hw2 p2
 go_upto_region 2 with fail
 generalize w1.setCell ⟨g,o,none⟩ (.int .i64 x)=w2 at *
 have c1:w2.cell? ⟨g,o+1,none⟩=some (.int .i64 (b:Int)):=(HW.out.cell (o+1)).trans (by rw [Array.getElem?_setIfInBounds,if_neg (by omega)];exact h1)
 have f1:w2.frozen? ⟨g,o+1,none⟩=false:=HW.out.free (o+1)
 have e1:w2.cell? ⟨w.heap.size,1,none⟩=some (.int .i64 (d:Int)):=hp2.out.cell 1
 refine wp_region_still_tail 9 (by kernel_rfl) (by kernel_rfl) ?_
 simp only [List.take_succ_cons,List.take_zero,List.drop_succ_cons,List.drop_zero]
 repeat still_step
 still_call (HD.out _)
 repeat still_step
 refine wpStill_nil ?_
 change wpList _ _ _ _ _ w2.drew
 have hw3:Whole1 w2.drew g T _:=HW.out
 have hg3:w.grownBy w2.drew (some g):=only_drewN HG.out 1
 have g1:=dF f1
 have g0:=dC c1
 clear c1 f1 e1
 generalize w2.drew=w3 at *
 have HW3:=Lib.hid (hw3.set (o+1) (.int .i64 z))
 have HG3:=Lib.hid (only_set hg3 (o+1) (.int .i64 z))
 clear hw3 hg3
 go_wp2
 case inl=>
  rw [show (d:Int)+1=z by rw [← hyz,hy,if_pos (by omega)];omega]
  exact bodyPost_end (v:=.tuple #[]) (by simp [results,Tryz.results187]) rfl ⟨rfl,HW3.out,HG3.out⟩
 case inr h=>
  rw [show (b:Int)=z by rw [← hyz,hy,if_neg (by omega)]]
  exact bodyPost_end (v:=.tuple #[]) (by simp [results,Tryz.results187]) rfl ⟨rfl,HW3.out,HG3.out⟩
end Go.Proofs.YtfnblkcmcfofoaaGreatDoor
namespace Go.Proofs.YtfnblkcmcfofoaaGreatDoor
set_option maxRecDepth 100000
open Go.RowKit
theorem TysAt.uniq_of {w:World} {B B':Nat} {A:Option Addr} {ts ts':List Ty} (hu:∀ i,(h:i<ts.length)→∀ v B' t',TyAt w B v ts[i]→TyAt w B' v t'→ts[i]=t') (h:TysAt w B A ts) (h':TysAt w B' A ts') (hl:ts.length=ts'.length):ts=ts':=by
 obtain ⟨_,vs,h1,h2⟩:=h
 obtain ⟨_,vs',h1',h2'⟩:=h'
 refine List.ext_getElem hl fun i hi hi'=>?_
 obtain ⟨b,off,e,_,hc⟩:=h1 i hi
 obtain ⟨b',off',e',_,hc'⟩:=h1' i hi'
 rw [e] at e'
 cases e'
 have ht:=h2 i hi
 have ht':=h2' i hi'
 obtain ⟨L,lc,A1,ac,hv,_⟩:=ht.open
 obtain ⟨L',lc',A1',ac',hv',_⟩:=ht'.open
 have:vs i=vs' i:=by
  have c0:=(hc 0 (by omega)).symm.trans (hc' 0 (by omega))
  have c1:=(hc 1 (by omega)).symm.trans (hc' 1 (by omega))
  have c2:=(hc 2 (by omega)).symm.trans (hc' 2 (by omega))
  rw [hv,hv'] at c0 c1 c2 ⊢
  simp [partAt] at c0 c1 c2
  simp [c0,c1,c2]
 rw [← this] at ht'
 exact hu i hi _ _ _ ht ht'
theorem StrsAt.uniq {w:World} {B B':Nat} {A:Option Addr} {ss ss':List ByteArray} (h:StrsAt w B A ss) (h':StrsAt w B' A ss') (hl:ss.length=ss'.length):ss=ss':=by
 refine List.ext_getElem hl fun i hi hi'=>?_
 obtain ⟨b,off,e,_,hc⟩:=h i hi
 obtain ⟨b',off',e',_,hc'⟩:=h' i hi'
 rw [e] at e'
 cases e'
 rw [hc] at hc'
 simpa using hc'
theorem TyAt.uniq (t:Ty):∀ {w:World} {B B':Nat} {v:Value} {t':Ty},TyAt w B v t→TyAt w B' v t'→t=t':=by
 induction t using Ty.ind with
 | h k ls ts ih=>
  intro w B B' v t' h h'
  obtain ⟨L,lc,A,ac,hv,_,_,hl,ha⟩:=h.open
  obtain ⟨L',lc',A',ac',hv',_,_,hl',ha'⟩:=h'.open
  rw [hv] at hv'
  simp at hv'
  obtain ⟨e1,⟨e2,e3,e4⟩,e5,e6,e7⟩:=hv'
  subst e2 e5
  have h1:=hl.uniq hl' e3
  have h2:=TysAt.uniq_of (fun i hi v B' t' a b=>ih i hi a b) ha ha' e6
  cases t'
  simp only [Ty.kind,Ty.labels,Ty.args] at *
  rw [e1,h1,h2]
theorem TysIn.uniq {w:World} {S S':Nat→Prop} {A:Option Addr} {ts ts':List Ty} (h:TysIn w S A ts) (h':TysIn w S' A ts') (hl:ts.length=ts'.length):ts=ts':=
 TysAt.uniq_of (fun _ _ _ _ _ a b=>TyAt.uniq _ a b) h.here h'.here hl
structure Fr where
 g:Nat
 c:Nat
 ts:List Ty
 k:Nat
def frCells (f:Fr):List Value:=[.slice (some ⟨f.g,0,none⟩) f.ts.length f.c,.int .i64 (f.k:Int),.int .i64 (sizeTys (f.ts.take f.k):Int),.int .i64 (depthTys (f.ts.take f.k):Int)]
def stkCells:List Fr→List Value | []=>[] | f::r=>stkCells r++frCells f
theorem stkCells_len:∀ l:List Fr,(stkCells l).length=l.length * 4
 | []=>rfl
 | f::r=>by
  rw [stkCells,List.length_append,stkCells_len r]
  simp [frCells]
  omega
def FrOk (w1:World) (B:Nat) (f:Fr):Prop:=f.ts≠[]∧TysIn w1 (fun b=>b<B) (some ⟨f.g,0,none⟩) f.ts
def Link (w1:World) (f f':Fr):Prop:=∃ h:f.k<f.ts.length,f'.ts=f.ts[f.k].args∧w1.cell? ⟨f.g,f.k * 3+2,none⟩=some (.slice (some ⟨f'.g,0,none⟩) f'.ts.length f'.c)
def Stk (w1:World) (B:Nat) (ts0:List Ty):List Fr→Prop
 | []=>False
 | [f]=>FrOk w1 B f∧f.ts=ts0∧sizeTys f.ts≤2000000
 | f'::f::r=>FrOk w1 B f'∧Link w1 f f'∧Stk w1 B ts0 (f::r)
theorem Stk.ok {w1:World} {B:Nat} {ts0:List Ty} {f:Fr} {r:List Fr} (h:Stk w1 B ts0 (f::r)):FrOk w1 B f:=by
 cases r with
 | nil=>exact h.1
 | cons a r=>exact h.1
theorem Stk.top {w1:World} {B:Nat} {ts0:List Ty} {f:Fr} {r:List Fr} (h:Stk w1 B ts0 (f::r)) (k:Nat):Stk w1 B ts0 ({ f with k:=k }::r):=by
 cases r with
 | nil=>exact h
 | cons a r=>exact h
theorem sizeTys_part (ts:List Ty) (k:Nat) (h:k<ts.length):sizeTys ts[k].args<sizeTys ts:=by
 have h1:=sizeTys_take ts k h
 have h2:=sizeTys_le ts (k+1)
 have h3:=sizeTy_eq ts[k]
 omega
theorem Stk.small {w1:World} {B:Nat} {ts0:List Ty}:∀ {r:List Fr} {f:Fr},Stk w1 B ts0 (f::r)→∀ x ∈ r,sizeTys f.ts<sizeTys x.ts
 | [],_,_,x,hx=>absurd hx (by simp)
 | a::r,f,h,x,hx=>by
  obtain ⟨_,⟨hk,hts,_⟩,h3⟩:=h
  have:=sizeTys_part a.ts a.k hk
  rw [← hts] at this
  rcases List.mem_cons.1 hx with rfl | hx
  ·exact this
  ·exact Nat.lt_trans this (h3.small x hx)
theorem Stk.len {w1:World} {B:Nat} {ts0:List Ty}:∀ {r:List Fr} {f:Fr},Stk w1 B ts0 (f::r)→r.length+sizeTys f.ts≤2000000
 | [],_,h=>by simpa using h.2.2
 | a::r,f,h=>by
  obtain ⟨_,⟨hk,hts,_⟩,h3⟩:=h
  have:=sizeTys_part a.ts a.k hk
  rw [← hts] at this
  have:=h3.len
  simp only [List.length_cons]
  omega
theorem FrOk.elem {w1:World} {B:Nat} {f:Fr} (h:FrOk w1 B f) (k:Nat) (hk:k<f.ts.length):f.g<B∧∃ L lc A' ac,w1.cell? ⟨f.g,k * 3,none⟩=some (.int .i64 f.ts[k].kind)∧w1.cell? ⟨f.g,k * 3+1,none⟩=some (.slice L f.ts[k].labels.length lc)∧
  w1.cell? ⟨f.g,k * 3+2,none⟩=some (.slice A' f.ts[k].args.length ac)∧TysIn w1 (fun b=>b<B) A' f.ts[k].args∧f.ts[k].args.length≤maxLen:=by
 obtain ⟨h0,hm,ga,vs,Ss,h1,h2,h3,h4⟩:=h
 rcases h1 with h1 | ⟨h1,h5,h6⟩
 ·exact absurd h1 h0
 ·cases h1
  obtain ⟨L,lc,A',ac,gl,hv,_,_,_,ha⟩:=(h4 k hk).open
  have c0:=h6.cell k 0 hk (by omega)
  have c1:=h6.cell k 1 hk (by omega)
  have c2:=h6.cell k 2 hk (by omega)
  rw [hv] at c0 c1 c2
  refine ⟨h5,L,lc,A',ac,c0,c1,c2,?_,ha.1⟩
  obtain ⟨m0,ga',vs',Ss',m1,m2,m3,m4⟩:=ha
  exact ⟨m0,ga',vs',Ss',m1.imp id fun ⟨a,b,c⟩=>⟨a,(h2 k hk _ b.1).1,c⟩,fun i hi b hb=>⟨(h2 k hk _ (m2 i hi b hb).1.1).1,(m2 i hi b hb).2⟩,m3,m4⟩
theorem TysIn.addr {w1:World} {S:Nat→Prop} {A:Option Addr} {ts:List Ty} (h:TysIn w1 S A ts) (h0:ts≠[]):∃ g cs,A=some ⟨g,0,none⟩∧S g∧Whole1 w1 g 27 cs:=by
 obtain ⟨_,ga,vs,Ss,h1,_⟩:=h
 rcases h1 with h1 | ⟨h1,h5,cs,h6,_⟩
 ·exact absurd h1 h0
 ·exact ⟨ga,cs,h1,h5,h6⟩
def extV (ts:List Ty):Value:=.agg #[.int .i64 (sizeTys ts:Int),.int .i64 (depthTys ts:Int)]
def bigV:Value:=.agg #[.int .i64 9223372036854775807,.int .i64 9223372036854775807]
structure Inv (w1:World) (B mb:Nat) (ts0:List Ty) (wc w:World) (v:Value) (f:Fr) (r:List Fr) (F:Pl→Option Value) (ret:Bool):Prop where
 own:w.ownsRow B 225 4 v (r.length+1) (stkCells r++frCells f)
 keep:PlWd w1 B mb w
 call:Below wc.heap.size wc w
 known:Known plVal (PlOk w1 B mb) w mb F
 zero:F none=some (extV [])
 vals:∀ g ts u,TysIn w1 (fun b=>b<B) (some ⟨g,0,none⟩) ts→ts≠[]→F (some (g,ts.length))=some u→u=extV ts∨∃ x ∈ f::r,x.g=g∧x.ts.length=ts.length
 stk:Stk w1 B ts0 (f::r)
 le:f.k≤f.ts.length
 ret:ret=true→∃ (h:f.k<f.ts.length) (g c:Nat),w1.cell? ⟨f.g,f.k * 3+2,none⟩=some (.slice (some ⟨g,0,none⟩) f.ts[f.k].args.length c)∧F (some (g,f.ts[f.k].args.length))=some (extV f.ts[f.k].args)
 size:B≤w.heap.size
theorem Inv.right {w1 wc w:World} {B mb:Nat} {ts0:List Ty} {v:Value} {f:Fr} {r:List Fr} {F:Pl→Option Value} {ret:Bool} (h:Inv w1 B mb ts0 wc w v f r F ret) (hk:f.k<f.ts.length) (g:Nat) (hg:TysIn w1 (fun b=>b<B) (some ⟨g,0,none⟩) f.ts[f.k].args) (h0:f.ts[f.k].args≠[]) (u:Value)
  (hu:F (some (g,f.ts[f.k].args.length))=some u):u=extV f.ts[f.k].args:=by
 rcases h.vals g _ u hg h0 hu with h1 | ⟨x,hx,rfl,hl⟩
 ·exact h1
 ·exfalso
  have hsz:=sizeTys_part f.ts f.k hk
  have hok:FrOk w1 B x:=by
   have:∀ (r:List Fr) (f:Fr),Stk w1 B ts0 (f::r)→x ∈ f::r→FrOk w1 B x:=by
    intro r
    induction r with
    | nil=>
     intro f hs hm
     have:x=f:=by simpa using hm
     rw [this]
     exact hs.ok
    | cons a r ih=>
     intro f hs hm
     rcases List.mem_cons.1 hm with rfl | hm
     ·exact hs.ok
     ·exact ih a hs.2.2 hm
   exact this r f h.stk hx
  have he:=hok.2.uniq hg hl
  rcases List.mem_cons.1 hx with rfl | hx
  ·have:=congrArg sizeTys he
   omega
  ·have h1:=h.stk.small x hx
   have h2:=congrArg sizeTys he
   omega
theorem okKey {w1:World} {B mb:Nat} (hmb:∀ (t:TypeId) (cs:Array Value),¬ Whole1 w1 mb t cs) {g:Nat} {ts:List Ty} (hg:TysIn w1 (fun b=>b<B) (some ⟨g,0,none⟩) ts) (h0:ts≠[]) (n:Nat):PlOk w1 B mb (some (g,n)):=by
 intro g' n' e
 cases e
 obtain ⟨ga,cs,e,h1,h2⟩:=hg.addr h0
 cases e
 exact ⟨h1,fun e=>hmb _ _ (e ▸ h2),cs,_,h2⟩
def muRest:List Fr→Nat | []=>0 | f::r=>3 * sizeTys (f.ts.drop (f.k+1))+2+muRest r
def mu (f:Fr) (r:List Fr) (ret:Bool):Nat:=(if ret then 3 * sizeTys (f.ts.drop (f.k+1))+2 else 3 * sizeTys (f.ts.drop f.k)+1)+muRest r
theorem drop_size (ts:List Ty) (k:Nat) (h:k<ts.length):sizeTys (ts.drop k)=1+sizeTys ts[k].args+sizeTys (ts.drop (k+1)):=by
 rw [List.drop_eq_getElem_cons h,sizeTys,sizeTy_eq]
theorem mu_add (f:Fr) (r:List Fr) (ret:Bool) (h:f.k<f.ts.length):mu { f with k:=f.k+1 } r false<mu f r ret:=by
 unfold mu
 have:=drop_size f.ts f.k h
 cases ret<;>simp<;>omega
theorem mu_push (f:Fr) (r:List Fr) (h:f.k<f.ts.length) (g c:Nat):mu ⟨g,c,f.ts[f.k].args,0⟩ (f::r) false<mu f r false:=by
 unfold mu
 have:=drop_size f.ts f.k h
 simp [muRest]
 omega
theorem mu_pop (f f2:Fr) (r:List Fr) (ret:Bool):mu f2 r true<mu f (f2::r) ret:=by
 unfold mu
 cases ret<;>simp [muRest]<;>omega
theorem row_top {w:World} {B n:Nat} {T:TypeId} {v:Value} {xs:List Value} {a b c d:Value} (h:w.ownsRow B T 4 v (n+1) (xs++[a,b,c,d])) (hx:xs.length=n * 4):
  ∃ q cap cur,v=.slice (some ⟨q,0,none⟩) (n+1) cap∧B≤q∧Whole1 w q T cur∧n+1≤cap∧cap≤maxLen∧cur.size=cap * 4∧cur.toList.take (n * 4)=xs∧cur[n * 4]?=some a∧cur[n * 4+1]?=some b∧cur[n * 4+2]?=some c∧cur[n * 4+3]?=some d:=by
 rcases h.2 with ⟨_,h0⟩ | ⟨q,cap,cur,rfl,h2,h3,h4,h5,h6,h7⟩
 ·omega
 ·have hi:∀ i,i<(n+1) * 4→cur[i]?=(xs++[a,b,c,d])[i]?:=fun i hi=>by
   rw [← h7,List.getElem?_take,if_pos hi]
   simp
  refine ⟨q,cap,cur,rfl,h2,h3,h4,h5,h6,?_,?_,?_,?_,?_⟩
  ·have:cur.toList.take (n * 4)=(cur.toList.take ((n+1) * 4)).take (n * 4):=by rw [List.take_take,Nat.min_eq_left (by omega)]
   rw [this,h7,List.take_append_of_le_length (by omega),← hx,List.take_length]
  ·rw [hi _ (by omega),List.getElem?_append_right (by omega),hx,Nat.sub_self]
   rfl
  ·rw [hi _ (by omega),List.getElem?_append_right (by omega),hx,show n * 4+1 - n * 4=1 by omega]
   rfl
  ·rw [hi _ (by omega),List.getElem?_append_right (by omega),hx,show n * 4+2 - n * 4=2 by omega]
   rfl
  ·rw [hi _ (by omega),List.getElem?_append_right (by omega),hx,show n * 4+3 - n * 4=3 by omega]
   rfl
theorem row_of {w:World} {B n q cap:Nat} {T:TypeId} {xs:List Value} {cur:Array Value} {a b c d:Value} (hq:B≤q) (hW:Whole1 w q T cur) (h4:n+1≤cap) (h5:cap≤maxLen) (h6:cur.size=cap * 4) (hx:xs.length=n * 4) (h7:cur.toList.take (n * 4)=xs)
  (ha:cur[n * 4]?=some a) (hb:cur[n * 4+1]?=some b) (hc:cur[n * 4+2]?=some c) (hd:cur[n * 4+3]?=some d):w.ownsRow B T 4 (.slice (some ⟨q,0,none⟩) (n+1) cap) (n+1) (xs++[a,b,c,d]):=by
 refine ⟨by simp [hx];omega,.inr ⟨q,cap,cur,rfl,hq,hW,h4,h5,h6,?_⟩⟩
 apply List.ext_getElem?
 intro i
 rw [List.getElem?_take]
 by_cases hi:i<n * 4
 ·rw [if_pos (by omega),List.getElem?_append_left (by omega),← h7,List.getElem?_take,if_pos hi]
 ·rw [List.getElem?_append_right (by omega),hx]
  by_cases h8:i<(n+1) * 4
  ·rw [if_pos h8]
   have:i=n * 4∨i=n * 4+1∨i=n * 4+2∨i=n * 4+3:=by omega
   rcases this with rfl | rfl | rfl | rfl
   ·rw [Nat.sub_self]
    simpa using ha
   ·rw [show n * 4+1 - n * 4=1 by omega]
    simpa using hb
   ·rw [show n * 4+2 - n * 4=2 by omega]
    simpa using hc
   ·rw [show n * 4+3 - n * 4=3 by omega]
    simpa using hd
  ·rw [if_neg h8,List.getElem?_eq_none (by simp;omega)]
theorem row_pop {w:World} {B n q cap:Nat} {T:TypeId} {xs:List Value} {cur:Array Value} (hq:B≤q) (hW:Whole1 w q T cur) (h4:n+1≤cap) (h5:cap≤maxLen) (h6:cur.size=cap * 4) (hx:xs.length=n * 4) (h7:cur.toList.take (n * 4)=xs):w.ownsRow B T 4 (.slice (some ⟨q,0,none⟩) n cap) n xs:=
 ⟨hx,.inr ⟨q,cap,cur,rfl,hq,hW,by omega,h5,h6,h7⟩⟩
section
variable {w1 wc w:World} {B mb:Nat} {ts0:List Ty} {v:Value} {f:Fr} {r:List Fr} {F:Pl→Option Value} {ret:Bool}
theorem owns_keep4 {w w':World} {base k size:Nat} {e:TypeId} {v:Value} {xs:List Value} (h:w.ownsRow base e size v k xs) (hk:∀ g,v.ownBlock=some g→w'.heap[g]?=w.heap[g]?):w'.ownsRow base e size v k xs:=by
 refine ⟨h.1,?_⟩
 rcases h.2 with h2 | ⟨g,cap,cur,h1,h2,h3,h4⟩
 ·exact .inl h2
 ·exact .inr ⟨g,cap,cur,h1,h2,(hk g (by rw [h1];rfl)).trans h3,h4⟩
theorem Inv.below {w':World} (h:Inv w1 B mb ts0 wc w v f r F ret) (hB0:wc.heap.size≤w.heap.size) (hb:Below w.heap.size w w'):Inv w1 B mb ts0 wc w' v f r F ret:=
 { h with
  own:=owns_keep4 h.own fun g hg=>hb.block g (h.own.lt g hg).2
  keep:=fun g hg hne=>(hb.block g (Nat.lt_of_lt_of_le hg h.size)).trans (h.keep g hg hne)
  call:=h.call.trans (hb.mono hB0)
  known:=h.known.keep (hb.block mb h.known.lt)
  size:=Nat.le_trans h.size hb.size }
theorem Inv.pop {w':World} {f2:Fr} {q cap:Nat} (h:Inv w1 B mb ts0 wc w (.slice (some ⟨q,0,none⟩) (r.length+1+1) cap) f (f2::r) F ret) (hk:f.k=f.ts.length) (hmB:mb<B) (hmc:wc.heap.size≤mb) (ho:MapOnly mb w w') (hkn:Known plVal (PlOk w1 B mb) w' mb (put F (some (f.g,f.ts.length)) (extV f.ts))):
  Inv w1 B mb ts0 wc w' (.slice (some ⟨q,0,none⟩) (r.length+1) cap) f2 r (put F (some (f.g,f.ts.length)) (extV f.ts)) true:=by
 obtain ⟨hgb,hsz⟩:=ho
 have hst:=h.stk
 obtain ⟨hfo,⟨hlk,hts,hcell⟩,hst2⟩:=hst
 refine { own:=?_,keep:=fun g hg hne=>(hgb.block g (Nat.lt_of_lt_of_le hg h.size) (fun e=>hne (Option.some.inj e))).trans (h.keep g hg hne),call:=h.call.grown hgb (by have:=h.call.size;omega) (fun k hk=>by cases hk;exact hmc),known:=hkn,zero:=?_,vals:=?_,stk:=hst2,le:=Nat.le_of_lt hlk,ret:=fun _=>⟨hlk,f.g,f.c,by rw [hcell,hts],by rw [← hts,put_same]⟩,size:=by have:=h.size;omega }
 ·obtain ⟨q',cap',cur,he,hq,hW,hcap,hcap2,hcs,htk,_⟩:=row_top h.own (stkCells_len _)
  simp at he
  obtain ⟨rfl,rfl⟩:=he
  have hqm:q≠mb:=by have:=hq;omega
  exact row_pop hq ((hgb.block q hW.lt (fun e=>hqm (Option.some.inj e))).trans hW) hcap hcap2 hcs (stkCells_len (f2::r)) htk
 ·rw [put_other _ _ _ _ (by simp)]
  exact h.zero
 ·intro g ts u hg h0 hu
  by_cases he:(some (g,ts.length):Pl)=some (f.g,f.ts.length)
  ·simp at he
   obtain ⟨rfl,hl⟩:=he
   have:=hg.uniq hfo.2 hl
   subst this
   rw [put_same] at hu
   exact .inl (Option.some.inj hu).symm
  ·rw [put_other _ _ _ _ he] at hu
   rcases h.vals g ts u hg h0 hu with h1 | ⟨x,hx,h2,h3⟩
   ·exact .inl h1
   ·rcases List.mem_cons.1 hx with rfl | hx
    ·exact absurd (by rw [h2,h3]) he
    ·exact .inr ⟨x,hx,h2,h3⟩
theorem Inv.add {w':World} {q cap:Nat} {cur cur':Array Value} (h:Inv w1 B mb ts0 wc w (.slice (some ⟨q,0,none⟩) (r.length+1) cap) f r F ret) (hk:f.k<f.ts.length) (hmB:mb<B) (hcB:wc.heap.size≤B) (hW:Whole1 w q 225 cur) (hW':Whole1 w' q 225 cur')
  (hg:w.grownBy w' (some q)) (hcs:cur'.size=cur.size) (hold:∀ i:Nat,i≤r.length * 4→cur'[i]?=cur[i]?) (h1:cur'[r.length * 4+1]?=some (.int .i64 ((f.k+1:Nat):Int))) (h2:cur'[r.length * 4+2]?=some (.int .i64 (sizeTys (f.ts.take (f.k+1)):Int)))
  (h3:cur'[r.length * 4+3]?=some (.int .i64 (depthTys (f.ts.take (f.k+1)):Int))):Inv w1 B mb ts0 wc w' (.slice (some ⟨q,0,none⟩) (r.length+1) cap) { f with k:=f.k+1 } r F false:=by
 obtain ⟨q',cap',cur0,he,hq,hW0,hcap,hcap2,hcs0,htk,c0,_⟩:=row_top h.own (stkCells_len _)
 simp at he
 obtain ⟨rfl,rfl⟩:=he
 have hc:cur0=cur:=by
  unfold Whole1 at hW hW0
  rw [hW] at hW0
  injection hW0 with e
  injection e with e
  exact e.symm
 subst hc
 have hne:∀ g,g<B→g≠q:=fun g hg=>by omega
 refine { own:=?_,keep:=fun g hg' hne'=>(hg.block g (Nat.lt_of_lt_of_le hg' h.size) (fun e=>hne g hg' (Option.some.inj e))).trans (h.keep g hg' hne'),call:=h.call.grown hg h.call.size (fun k hk=>by cases hk;omega),known:=h.known.keep (hg.block mb h.known.lt (fun e=>hne mb hmB (Option.some.inj e))),zero:=h.zero,vals:=?_,stk:=h.stk.top _,le:=hk,ret:=fun e=>(by cases e),size:=Nat.le_trans h.size hg.size }
 ·refine row_of hq hW' hcap hcap2 (by rw [hcs,hcs0]) (stkCells_len r) ?_ (by rw [hold _ (Nat.le_refl _)];exact c0) h1 h2 h3
  rw [← htk]
  apply List.ext_getElem?
  intro i
  rw [List.getElem?_take,List.getElem?_take]
  by_cases hi:i<r.length * 4
  ·rw [if_pos hi,if_pos hi]
   simpa using hold i (by omega)
  ·rw [if_neg hi,if_neg hi]
 ·intro g ts u hg' h0 hu
  rcases h.vals g ts u hg' h0 hu with a | ⟨x,hx,b,c⟩
  ·exact .inl a
  ·rcases List.mem_cons.1 hx with rfl | hx
   ·exact .inr ⟨_,List.mem_cons_self,b,c⟩
   ·exact .inr ⟨x,List.mem_cons_of_mem _ hx,b,c⟩
theorem Inv.push {w':World} {v':Value} (h:Inv w1 B mb ts0 wc w v f r F ret) (hk:f.k<f.ts.length) (g c:Nat) (hcell:w1.cell? ⟨f.g,f.k * 3+2,none⟩=some (.slice (some ⟨g,0,none⟩) f.ts[f.k].args.length c)) (hg:TysIn w1 (fun b=>b<B) (some ⟨g,0,none⟩) f.ts[f.k].args) (h0:f.ts[f.k].args≠[])
  (hkn:Known plVal (PlOk w1 B mb) w' mb (put F (some (g,f.ts[f.k].args.length)) bigV)) (hown:w'.ownsRow B 225 4 v' (r.length+1+1) ((stkCells r++frCells f)++frCells ⟨g,c,f.ts[f.k].args,0⟩)) (hkeep:PlWd w1 B mb w') (hcall:Below wc.heap.size wc w') (hB:B≤w'.heap.size):
  Inv w1 B mb ts0 wc w' v' ⟨g,c,f.ts[f.k].args,0⟩ (f::r) (put F (some (g,f.ts[f.k].args.length)) bigV) false:=by
 refine { own:=hown,keep:=hkeep,call:=hcall,known:=hkn,zero:=?_,vals:=?_,stk:=⟨⟨h0,hg⟩,⟨hk,rfl,hcell⟩,h.stk⟩,le:=Nat.zero_le _,ret:=fun e=>(by cases e),size:=hB }
 ·rw [put_other _ _ _ _ (by simp)]
  exact h.zero
 ·intro g' ts u hg' h0' hu
  by_cases he:(some (g',ts.length):Pl)=some (g,f.ts[f.k].args.length)
  ·simp at he
   exact .inr ⟨_,List.mem_cons_self,he.1.symm,he.2.symm⟩
  ·rw [put_other _ _ _ _ he] at hu
   rcases h.vals g' ts u hg' h0' hu with a | ⟨x,hx,b,c⟩
   ·exact .inl a
   ·exact .inr ⟨x,List.mem_cons_of_mem _ hx,b,c⟩
end
theorem Inv.start {wc w3 w1:World} {t:Ty} {S:Nat→Prop} {a b c:Value} (hv:TyIn wc S (.agg #[a,b,c]) t) (hS:∀ b,S b→b<wc.heap.size) (hsz:sizeTy t≤2000000) (hb3:Below wc.heap.size wc w3) (hs3:w3.heap.size=wc.heap.size+2+1)
  (hk:Known plVal (PlOk wc 0 (wc.heap.size+2)) w3 (wc.heap.size+2) (put (fun _=>none) none (.agg #[.int .i64 0,.int .i64 0])))
  (hw1:(w3.alloc (.cells #[a,b,c] 27)).alloc (.cells #[.slice (some ⟨wc.heap.size+2+1,0,none⟩) 1 1,.int .i64 0,.int .i64 0,.int .i64 0] 225)=w1):
  Inv w1 (wc.heap.size+4) (wc.heap.size+2) [t] wc w1 (.slice (some ⟨wc.heap.size+2+1+1,0,none⟩) 1 1) ⟨wc.heap.size+3,1,[t],0⟩ [] (put (fun _=>none) none (.agg #[.int .i64 0,.int .i64 0])) false:=by
 have hs4:(w3.alloc (.cells #[a,b,c] 27)).heap.size=wc.heap.size+4:=by simp [hs3]
 have hb1:Below w3.heap.size w3 w1:=by
  rw [← hw1]
  exact ((Below.refl _ _).alloc (Nat.le_refl _) _).alloc (by simp) _
 have hs1:w1.heap.size=wc.heap.size+5:=by rw [← hw1];simp [hs3]
 have hcall:Below wc.heap.size wc w1:=hb3.trans (hb1.mono (by omega))
 have hroot:Whole1 w1 (wc.heap.size+3) 27 #[a,b,c]:=by
  rw [← hw1]
  refine (Below.heap_alloc _ _ _ (by omega)).trans ?_
  have:=Whole1.new w3 27 #[a,b,c]
  rw [hs3] at this
  exact this
 have htop:Whole1 w1 (wc.heap.size+4) 225 #[.slice (some ⟨wc.heap.size+2+1,0,none⟩) 1 1,.int .i64 0,.int .i64 0,.int .i64 0]:=by
  rw [← hw1]
  have:=Whole1.new (w3.alloc (.cells #[a,b,c] 27)) 225 #[.slice (some ⟨wc.heap.size+2+1,0,none⟩) 1 1,.int .i64 0,.int .i64 0,.int .i64 0]
  rw [hs4] at this
  exact this
 refine { own:=?_,keep:=fun _ _ _=>rfl,call:=hcall,known:=?_,zero:=?_,vals:=?_,stk:=?_,le:=Nat.zero_le _,ret:=fun e=>(by cases e),size:=by omega }
 ·exact ⟨rfl,.inr ⟨wc.heap.size+4,1,_,rfl,Nat.le_refl _,htop,Nat.le_refl _,by decide,rfl,rfl⟩⟩
 ·obtain ⟨es,clock,h1,h2,h3⟩:=hk
  exact ⟨es,clock,(hb1.block _ (by omega)).trans h1,fun e he=>by
   obtain ⟨k,k1,k2⟩:=h2 e he
   exact ⟨k,fun g n e=>absurd (k1 g n e).1 (Nat.not_lt_zero _),k2⟩,h3⟩
 ·rw [put_same]
  simp [extV,sizeTys,depthTys]
 ·intro g ts u _ _ hu
  rw [put_other _ _ _ _ (by simp)] at hu
  cases hu
 ·refine ⟨⟨by simp,by simp [maxLen],wc.heap.size+3,fun _=>.agg #[a,b,c],fun _=>S,.inr ⟨rfl,by omega,_,hroot,?_⟩,?_,?_,?_⟩,rfl,by simp [sizeTys];exact hsz⟩
  ·intro i hi j hj
   have hi0:i=0:=by simpa using hi
   subst hi0
   have:j=0∨j=1∨j=2:=by omega
   rcases this with rfl | rfl | rfl<;>simp [partAt]
  ·intro i _ b hb
   have:=hS b hb
   exact ⟨by omega,by omega⟩
  ·intro i j hi hj hne
   simp at hi hj
   omega
  ·intro i hi
   have hi0:i=0:=by simpa using hi
   subst hi0
   exact hv.keep fun b hb _=>hcall.block b (hS b hb)
theorem Inv.next {w1 wc w:World} {B mb:Nat} {ts0:List Ty} {v:Value} {f:Fr} {r:List Fr} {F:Pl→Option Value} {ret:Bool} (h:Inv w1 B mb ts0 wc w v f r F ret) (hk:f.k<f.ts.length) (hmb:∀ (t:TypeId) (cs:Array Value),¬ Whole1 w1 mb t cs):
  ∃ L lc A' ac key,f.g<B∧f.g≠mb∧w1.cell? ⟨f.g,f.k * 3,none⟩=some (.int .i64 f.ts[f.k].kind)∧w1.cell? ⟨f.g,f.k * 3+1,none⟩=some (.slice L f.ts[f.k].labels.length lc)∧w1.cell? ⟨f.g,f.k * 3+2,none⟩=some (.slice A' f.ts[f.k].args.length ac)∧
   (∀ W,Calls Tryz.prog 193 #[.slice A' f.ts[f.k].args.length ac] W (PlaceRet W key))∧PlOk w1 B mb key∧(∀ u,F key=some u→u=extV f.ts[f.k].args)∧
   (F key=none→ret=false∧f.ts[f.k].args≠[]∧∃ g',A'=some ⟨g',0,none⟩∧key=some (g',f.ts[f.k].args.length)∧TysIn w1 (fun b=>b<B) (some ⟨g',0,none⟩) f.ts[f.k].args):=by
 have hfo:=h.stk.ok
 obtain ⟨hgB,L,lc,A',ac,c0,c1,c2,hargs,_⟩:=hfo.elem f.k hk
 obtain ⟨g0,cs0,e0,_,hw0⟩:=hfo.2.addr hfo.1
 cases e0
 have hgm:f.g≠mb:=fun e=>hmb _ _ (e ▸ hw0)
 by_cases h0:f.ts[f.k].args=[]
 ·refine ⟨L,lc,A',ac,none,hgB,hgm,c0,c1,c2,fun W=>?_,fun g n e=>(by cases e),fun u hu=>?_,fun hn=>?_⟩
  ·rw [h0]
   exact placeOf_nil A' ac W
  ·rw [h.zero] at hu
   rw [h0]
   exact (Option.some.inj hu).symm
  ·rw [h.zero] at hn
   cases hn
 ·obtain ⟨g',cs',rfl,_,_⟩:=hargs.addr h0
  refine ⟨L,lc,_,ac,some (g',f.ts[f.k].args.length),hgB,hgm,c0,c1,c2,fun W=>placeOf_some g' _ ac W (List.length_pos_iff.2 h0),okKey hmb hargs h0 _,fun u hu=>h.right hk g' hargs h0 u hu,fun hn=>⟨?_,h0,g',rfl,rfl,hargs⟩⟩
  cases hr:ret with
  | false=>rfl
  | true=>
   obtain ⟨_,g,c,hc,hF⟩:=h.ret hr
   rw [c2] at hc
   simp at hc
   rw [hc.1] at hn
   rw [hF] at hn
   cases hn
end Go.Proofs.YtfnblkcmcfofoaaGreatDoor
namespace Go.Proofs.YtfnblkcmcfofoaaGreatDoor
set_option maxRecDepth 100000
open Go.RowKit
theorem zeroExtent (w:World):(zeroValue 166).run Tryz.prog w=.ok (.agg #[.int .i64 0,.int .i64 0]) w:=by kernel_rfl
theorem infoVisit:(Tryz.prog.info? 225).map (fun i=>(i.zero,i.size,i.bytes))=some (some (.agg #[.slice none 0 0,.int .i64 0,.int .i64 0,.int .i64 0]),4,48):=by kernel_rfl
theorem news4 (w:World) (t:TypeId) (A:Option Addr) (n c:Nat) (a:Int):CellsAt (w.alloc (.cells #[.slice A n c,.int .i64 a,.int .i64 a,.int .i64 a] t)) (some ⟨w.heap.size,0,none⟩) [.slice A n c,.int .i64 a,.int .i64 a,.int .i64 a]:=by
 refine .inr ⟨_,rfl,fun j u hj=>?_⟩
 rw [WideShapes.add_plain,World.cell?_alloc_at _ _ _ _ rfl,Nat.zero_add]
 simpa using hj
theorem ones4 (A:Option Addr) (n c:Nat) (a:Int):∀ u ∈ [Value.slice A n c,.int .i64 a,.int .i64 a,.int .i64 a],u.oneCell'=true:=by
 intro u hu
 simp at hu
 rcases hu with rfl | rfl | rfl | rfl<;>rfl
def ExtRet (w:World) (t:Ty) (e:Ending) (w':World):Prop:=e=.returned (.agg #[.int .i64 (sizeTy t:Int),.int .i64 (depthTy t:Int)])∧Below w.heap.size w w'
set_option maxHeartbeats 4000000 in
theorem extentOf_any (t:Ty) (v:Value) (S:Nat→Prop) (w:World) (hv:TyIn w S v t) (hS:∀ b,S b→b<w.heap.size) (hsz:sizeTy t≤2000000):
  Calls Tryz.prog 174 #[v,.func (.func 175) #[] #[]] w (ExtRet w t):=by
 obtain ⟨L,lc,A,ac,gl,hv0,_,_,_,ha⟩:=hv.open
 have HV:=Lib.hid hv
 subst hv0
 clear hv ha
 have hmm:=@run_makeMap Tryz.prog
 obtain ⟨hb2,p2,r2,hs2⟩:=boxes2 w 27 166 #[.int .i64 t.kind,.slice L t.labels.length lc,.slice A t.args.length ac] #[.int .i64 0,.int .i64 0]
 go_enter Tryz.func174,Tryz.ntmps174
 go_upto_region 1 with fail
 generalize (w.alloc (.cells #[.int .i64 t.kind,.slice L t.labels.length lc,.slice A t.args.length ac] 27)).alloc (.cells #[.int .i64 0,.int .i64 0] 166)=w2 at *
 have hkn:Known plVal (PlOk w 0 (w.heap.size+2)) (w2.alloc (.map #[] 0)) (w.heap.size+2) (fun _=>none):=by rw [← hs2];exact Known.new w2
 obtain ⟨w3,hrun,hk3,ho3,hs3⟩:=hkn.store (plKit w 0 (w.heap.size+2)) Tryz.underlying220 (fun g hg=>absurd hg (Nat.not_lt_zero _)) (k:=none) (fun g n e=>by cases e) (.agg #[.int .i64 0,.int .i64 0])
 have hrun':(Instr.mapUpdate 220 (.map (some (w.heap.size+2))) (.agg #[.pointer none,.int .i64 0]) (.agg #[.int .i64 0,.int .i64 0])).run Tryz.prog (w2.alloc (.map #[] 0))=.ok () w3:=hrun
 simp only [World.size_alloc] at hs3
 have hb3:Below w.heap.size w w3:=(hb2.alloc hb2.size (.map #[] 0)).grown ho3 (by simp;omega) (fun q hq=>by cases hq;omega)
 have p3:Whole1 w3 w.heap.size 27 #[.int .i64 t.kind,.slice L t.labels.length lc,.slice A t.args.length ac]:=(ho3.block _ (by simp;omega) (fun e=>by injection e with e;omega)).trans ((Below.heap_alloc _ _ _ (by omega)).trans p2)
 have r3:Whole1 w3 (w.heap.size+1) 166 #[.int .i64 0,.int .i64 0]:=(ho3.block _ (by simp;omega) (fun e=>by injection e with e;omega)).trans ((Below.heap_alloc _ _ _ (by omega)).trans r2)
 have HK:=Lib.hid hk3
 have HP:=Lib.hid p3
 have HR:=Lib.hid r3
 obtain ⟨q0,q1,q2⟩:=p3.c3
 rw [hs2] at hs3
 clear p2 r2 hk3 p3 r3 hkn hrun ho3
 go_upto_region 3 with fail
 clear hrun' hmm hb2 hs2
 go_wp2
 generalize hw1:(w3.alloc (.cells #[.int .i64 t.kind,.slice L t.labels.length lc,.slice A t.args.length ac] 27)).alloc _=w1
 have hstart:=Inv.start HV.out hS hsz hb3 hs3 HK.out hw1
 have HR1:Hid (Whole1 w1 (w.heap.size+1) 166 #[.int .i64 0,.int .i64 0]):=by
  apply Lib.hid
  rw [← hw1]
  exact (Below.heap_alloc _ _ _ (by simp;omega)).trans ((Below.heap_alloc _ _ _ (by omega)).trans HR.out)
 have hs1:w1.heap.size=w.heap.size+5:=by rw [← hw1];simp [hs3]
 have hmb:∀ (t:TypeId) (cs:Array Value),¬ Whole1 w1 (w.heap.size+2) t cs:=by
  obtain ⟨es,clock,h1,_⟩:=hstart.known
  intro t cs h
  unfold Whole1 at h
  rw [h1] at h
  cases h
 have HMB:=Lib.hid hmb
 clear HK HP HR HV hw1 hb3 hs3 q0 q1 q2 hmb
 go_loopg [6] (mu ⟨w.heap.size+3,1,[t],0⟩ [] false) (fun gn v wr=>∃ f r F ret,Inv w1 (w.heap.size+4) (w.heap.size+2) [t] w wr v f r F ret∧mu f r ret=gn)
 case atStart=>exact ⟨_,_,_,_,hstart,rfl⟩
 case round=>
  clear hstart
  obtain ⟨f,r,F,ret,hI,hmu⟩:=hrel
  have hlen:=hI.stk.len
  have hfok:=hI.stk.ok
  have hfl:=hfok.2.1
  unfold maxLen at hfl
  have hfle:=hI.le
  have hwz:=hI.size
  have hcz:=hI.call.size
  have HF:=Lib.hid hfok
  obtain ⟨q,cap,cur,rfl,hq,hW,hcap,hcap2,hcs,htk,d0,d1,d2,d3⟩:=row_top (hI.own) (stkCells_len r)
  have HI:=Lib.hid hI
  have HMU:=Lib.hid hmu
  have hql:=hW.lt
  clear hI hmu hfok htk
  obtain ⟨n,hn⟩:∃ n,n=r.length:=⟨_,rfl⟩
  have HN:=Lib.hid hn
  rw [← hn] at d0 d1 d2 d3 hcap hlen ⊢
  clear hn
  have hszk:=sizeTys_le f.ts f.k
  have hdpk:=depths_le_sizes (f.ts.take f.k)
  have hlt0:(n:Int)<(n:Int)+1:=by omega
  by_cases hke:f.k=f.ts.length
  ·have hkI:((f.k:Int) == (f.ts.length:Int))=true:=by rw [beq_iff_eq];omega
   by_cases hn0:n=0
   ·subst hn0
    have e0:wr.cell? ⟨q,0,none⟩=some (.slice (some ⟨f.g,0,none⟩) f.ts.length f.c):=(hW.cell _).trans (by simpa using d0)
    have e1:wr.cell? ⟨q,1,none⟩=some (.int .i64 (f.k:Int)):=(hW.cell _).trans (by simpa using d1)
    have e2:wr.cell? ⟨q,2,none⟩=some (.int .i64 (sizeTys (f.ts.take f.k):Int)):=(hW.cell _).trans (by simpa using d2)
    have e3:wr.cell? ⟨q,3,none⟩=some (.int .i64 (depthTys (f.ts.take f.k):Int)):=(hW.cell _).trans (by simpa using d3)
    have hR:Whole1 wr (w.heap.size+1) 166 #[.int .i64 0,.int .i64 0]:=(HI.out.keep _ (by omega) (by omega)).trans HR1.out
    have z0:wr.cell? ⟨w.heap.size+1,0,none⟩=some (.int .i64 0):=hR.cell 0
    have z1:wr.cell? ⟨w.heap.size+1,1,none⟩=some (.int .i64 0):=hR.cell 1
    have f0:wr.frozen? ⟨w.heap.size+1,0,none⟩=false:=hR.free 0
    have f1:wr.frozen? ⟨w.heap.size+1,1,none⟩=false:=hR.free 1
    clear hR
    go_upto_region 5 with fail
    clear hke
    go_quiet (fail)
    go_wp2
    have hx:sizeTys (f.ts.take f.k)=sizeTy t∧depthTys (f.ts.take f.k)=depthTy t:=by
     have h1:f.k=f.ts.length:=by have:=beq_iff_eq.1 hkI;omega
     have h2:f.ts=[t]:=by
      have h3:=HI.out.stk
      have h4:r=[]:=List.length_eq_zero_iff.1 HN.out.symm
      rw [h4] at h3
      exact h3.2.1
     rw [h1,List.take_length,h2]
     simp [sizeTys,depthTys]
    have hcall:=HI.out.call
    rw [hx.1,hx.2]
    refine bodyPost_ret (v:=.agg #[.int .i64 (sizeTy t:Int),.int .i64 (depthTy t:Int)]) (by simp [results,Tryz.results174,go_sem,z0,z1]) rfl ⟨rfl,(Below.setCell (p:=⟨w.heap.size+1,0,none⟩) (hcall.trans (b:=wr) (c:=wr.drewN nq) ⟨rfl,rfl,rfl,Nat.le_refl _,fun _ _=>rfl⟩) (by simp) _).setCell (p:=⟨w.heap.size+1,1,none⟩) (by simp) _⟩
   ·obtain ⟨f2,r2,hr⟩:∃ f2 r2,r=f2::r2:=by
     have:=HN.out
     cases r with
     | nil=>exact absurd this hn0
     | cons f2 r2=>exact ⟨f2,r2,rfl⟩
    have hnI:((n:Int)+1 == 1)=false:=by rw [beq_eq_false_iff_ne];omega
    have hpos:0<f.ts.length:=List.length_pos_iff.2 HF.out.1
    have HNP:=Lib.hid hn0
    have e0:wr.cell? ⟨q,n * 4,none⟩=some (.slice (some ⟨f.g,0,none⟩) f.ts.length f.c):=(hW.cell _).trans d0
    have e1:wr.cell? ⟨q,n * 4+1,none⟩=some (.int .i64 (f.k:Int)):=(hW.cell _).trans d1
    clear hke hn0 d0 d1
    go_upto_region 5 with fail
    go_quiet (fail)
    have HIa:=Lib.hid (HI.out.below hcz ⟨rfl,rfl,rfl,Nat.le_refl _,fun _ _=>rfl⟩:Inv w1 (w.heap.size+4) (w.heap.size+2) [t] w (wr.drewN nq) _ f r F ret)
    have hWa:Whole1 (wr.drewN nq) q 225 cur:=hW
    have hqla:q<(wr.drewN nq).heap.size:=hql
    have e0a:(wr.drewN nq).cell? ⟨q,n * 4,none⟩=some (.slice (some ⟨f.g,0,none⟩) f.ts.length f.c):=e0
    clear e0 e1 HI hW hql hwz hcz
    generalize wr.drewN nq=wa at *
    have e2:wa.cell? ⟨q,n * 4+2,none⟩=some (.int .i64 (sizeTys (f.ts.take f.k):Int)):=(hWa.cell _).trans d2
    have e3:wa.cell? ⟨q,n * 4+3,none⟩=some (.int .i64 (depthTys (f.ts.take f.k):Int)):=(hWa.cell _).trans d3
    clear d2 d3
    go_upto_region 8 with fail
    have ed:=(Below.refl wa.heap.size wa).drew
    have k0:=dC e0a
    have k2:=dC e2
    have k3:=dC e3
    go_region_held3 (fun x=>x.cell? ⟨q,n * 4,none⟩=some (.slice (some ⟨f.g,0,none⟩) f.ts.length f.c)∧x.cell? ⟨q,n * 4+2,none⟩=some (.int .i64 (sizeTys (f.ts.take f.k):Int))∧x.cell? ⟨q,n * 4+3,none⟩=some (.int .i64 (depthTys (f.ts.take f.k):Int)))
     (first | (with_reducible exact ⟨k0,k2,k3⟩) | (with_reducible exact ⟨m0,m2,m3⟩) | (with_reducible exact ⟨o0,o2,o3⟩))
     (first | (go_at_call 193;refine (placeOf_some f.g f.ts.length f.c _ hpos).mono ?_;rintro e w' ⟨rfl,hb1⟩;have hb2:=ed.trans hb1;have m0:=(kC hb2 e0a hqla);have m2:=(kC hb2 e2 hqla);have m3:=(kC hb2 e3 hqla);have hI5:=HIa.out.below HIa.out.call.size hb2;obtain ⟨w5,hrun5,hkn5,ho5⟩:=hI5.known.store (plKit w1 (w.heap.size+4) (w.heap.size+2)) Tryz.underlying220 hI5.keep (okKey HMB.out HF.out.2 HF.out.1 f.ts.length) (.agg #[.int .i64 (sizeTys (f.ts.take f.k):Int),.int .i64 (depthTys (f.ts.take f.k):Int)]);have hq5:=ho5.1.block q (Nat.lt_of_lt_of_le hqla hb2.size) (fun e=>by injection e with e;omega);have o0:=(World.cell?_of_block (a:=⟨q,n * 4,none⟩) hq5).trans m0;have o2:=(World.cell?_of_block (a:=⟨q,n * 4+2,none⟩) hq5).trans m2;have o3:=(World.cell?_of_block (a:=⟨q,n * 4+3,none⟩) hq5).trans m3))
    have HI5:=Lib.hid hI5
    have HK5:=Lib.hid hkn5
    have HO5:=Lib.hid ho5
    have HR5:=Lib.hid hr
    have hnc:(n:Int)≤(cap:Int):=by omega
    clear hI5 hkn5 ho5 hrun5 hr hq5 o0 o2 o3 m0 m2 m3 k0 k2 k3 e0a e2 e3
    go_wp2
    have hr:=HR5.out
    subst hr
    have hn2:n=r2.length+1:=HN.out
    subst hn2
    go_roundg (mu f2 r2 true)
    case measure=>rw [← HMU.out];exact mu_pop f f2 r2 ret
    case rel=>
     have hke:f.k=f.ts.length:=by have:=beq_iff_eq.1 hkI;omega
     have hkn:=HK5.out
     rw [hke,List.take_length] at hkn
     exact ⟨f2,r2,_,true,HI5.out.pop hke (by omega) (by omega) HO5.out hkn,rfl⟩
  ·have hk:f.k<f.ts.length:=by omega
   have hkI:((f.k:Int) == (f.ts.length:Int))=false:=by rw [beq_eq_false_iff_ne];omega
   have hkI2:(f.k:Int)<(f.ts.length:Int):=by omega
   obtain ⟨L',lc',A',ac',key,hgB,hgm,c0,c1,c2,hpl,hok,hright,hnew⟩:=HI.out.next hk HMB.out
   have HPL:=Lib.hid hpl
   have HOK:=Lib.hid hok
   have HRI:=Lib.hid hright
   have HNW:=Lib.hid hnew
   have HC2:=Lib.hid c2
   have hkeep:=fun (x:World) (hx:PlWd w1 (w.heap.size+4) (w.heap.size+2) x) (o:Nat)=>World.cell?_of_block (w:=w1) (w':=x) (a:=⟨f.g,o,none⟩) (hx f.g hgB hgm)
   have y0:=(hkeep wr HI.out.keep _).trans c0
   have y1:=(hkeep wr HI.out.keep _).trans c1
   have y2:=(hkeep wr HI.out.keep _).trans c2
   have e0:wr.cell? ⟨q,n * 4,none⟩=some (.slice (some ⟨f.g,0,none⟩) f.ts.length f.c):=(hW.cell _).trans d0
   have e1:wr.cell? ⟨q,n * 4+1,none⟩=some (.int .i64 (f.k:Int)):=(hW.cell _).trans d1
   have hst:=Lib.hid (sizeTys_take f.ts f.k hk)
   have hdt:=Lib.hid (depthTys_take f.ts f.k hk)
   have hse:=sizeTy_eq f.ts[f.k]
   have hde:=depthTy_eq f.ts[f.k]
   have hle2:=sizeTys_le f.ts (f.k+1)
   have hds:=depths_le_sizes f.ts[f.k].args
   have hsmall:sizeTys (f.ts.take f.k)+sizeTys f.ts[f.k].args+1≤2000000:=by have:=hst.out;omega
   have HSE:=Lib.hid hse
   have HDE:=Lib.hid hde
   clear hke hpl hok hright hnew hkeep c0 c1 c2 hse hde hle2
   go_upto_region 5 with fail
   go_quiet (fail)
   have HIa:=Lib.hid (HI.out.below hcz ⟨rfl,rfl,rfl,Nat.le_refl _,fun _ _=>rfl⟩:Inv w1 (w.heap.size+4) (w.heap.size+2) [t] w (wr.drewN nq) _ f r F ret)
   have hWa:Whole1 (wr.drewN nq) q 225 cur:=hW
   have hqla:q<(wr.drewN nq).heap.size:=hql
   have e0a:(wr.drewN nq).cell? ⟨q,n * 4,none⟩=some (.slice (some ⟨f.g,0,none⟩) f.ts.length f.c):=e0
   have e1a:(wr.drewN nq).cell? ⟨q,n * 4+1,none⟩=some (.int .i64 (f.k:Int)):=e1
   have y0a:(wr.drewN nq).cell? ⟨f.g,f.k * 3,none⟩=some (.int .i64 f.ts[f.k].kind):=y0
   have y1a:(wr.drewN nq).cell? ⟨f.g,f.k * 3+1,none⟩=some (.slice L' f.ts[f.k].labels.length lc'):=y1
   have y2a:(wr.drewN nq).cell? ⟨f.g,f.k * 3+2,none⟩=some (.slice A' f.ts[f.k].args.length ac'):=y2
   clear e0 e1 HI hW hql hwz hcz y0 y1 y2
   generalize wr.drewN nq=wa at *
   go_upto_region 10 with fail
   refine wp_region_still_tail 11 (by kernel_rfl) (by kernel_rfl) ?_
   simp only [List.take_succ_cons,List.take_zero,List.drop_succ_cons,List.drop_zero]
   repeat still_step
   refine wpStill_nil ?_
   change wpList _ _ _ _ _ wa.drew
   have HIb:=Lib.hid (HIa.out.below HIa.out.call.size ⟨rfl,rfl,rfl,Nat.le_refl _,fun _ _=>rfl⟩:Inv w1 (w.heap.size+4) (w.heap.size+2) [t] w wa.drew _ f r F ret)
   have hWb:Whole1 wa.drew q 225 cur:=hWa
   have hqlb:q<wa.drew.heap.size:=hqla
   clear HIa hWa hqla e0a e1a y0a y1a y2a
   generalize wa.drew=wb at *
   go_wp2_with fail
   refine (argsOf_any _ _ _ wb).mono ?_
   rintro e w5 ⟨rfl,hb5⟩
   have HI5:=Lib.hid (HIb.out.below HIb.out.call.size hb5)
   have hW5:=hWb.below hb5 hqlb
   have hql5:=hW5.lt
   clear HIb hWb hqlb hb5
   go_wp2_with fail
   refine (HPL.out w5).mono ?_
   rintro e w6 ⟨rfl,hb6⟩
   have hI6:=HI5.out.below HI5.out.call.size hb6
   have hW6:=hW5.below hb6 hql5
   have hql6:=hW6.lt
   have hlook:=hI6.known.look (plKit w1 (w.heap.size+4) (w.heap.size+2)) Tryz.underlying220 (zeroExtent w6) hI6.keep HOK.out
   have HI6:=Lib.hid hI6
   clear HI5 hW5 hql5 hb6 hI6
   cases hF:F key with
   | some u=>
    have hu:=HRI.out u hF
    subst hu
    rw [hF] at hlook
    have hl2:(Instr.lookup 220 (.map (some (w.heap.size+2))) (plVal key) true).run Tryz.prog w6=.ok (.tuple #[.agg #[.int .i64 (sizeTys f.ts[f.k].args:Int),.int .i64 (depthTys f.ts[f.k].args:Int)],.bool true]) w6:=hlook
    clear hlook hF
    go_upto_region 13 with fail
    have hb7:=(Below.refl w6.heap.size w6).alloc (Nat.le_refl _) (.cells #[.int .i64 (sizeTys f.ts[f.k].args:Int),.int .i64 (depthTys f.ts[f.k].args:Int)] 166)
    have HI7:=Lib.hid (HI6.out.below HI6.out.call.size hb7)
    have hW7:=hW6.below hb7 hql6
    have hin:=Whole1.new w6 166 #[.int .i64 (sizeTys f.ts[f.k].args:Int),.int .i64 (depthTys f.ts[f.k].args:Int)]
    clear hl2 HI6 hW6 hb7
    generalize w6.alloc (.cells #[.int .i64 (sizeTys f.ts[f.k].args:Int),.int .i64 (depthTys f.ts[f.k].args:Int)] 166)=w7 at *
    have i0:w7.cell? ⟨w6.heap.size,0,none⟩=some (.int .i64 (sizeTys f.ts[f.k].args:Int)):=hin.cell 0
    have i1:w7.cell? ⟨w6.heap.size,1,none⟩=some (.int .i64 (depthTys f.ts[f.k].args:Int)):=hin.cell 1
    refine wp_region_still_tail 4 (by kernel_rfl) (by kernel_rfl) ?_
    simp only [List.take_succ_cons,List.take_zero,List.drop_succ_cons,List.drop_zero]
    repeat still_step
    refine wpStill_nil ?_
    change wpList _ _ _ _ _ w7.drew
    have HI8:=Lib.hid (HI7.out.below HI7.out.call.size ⟨rfl,rfl,rfl,Nat.le_refl _,fun _ _=>rfl⟩:Inv w1 (w.heap.size+4) (w.heap.size+2) [t] w w7.drew _ f r F ret)
    have hW8:Whole1 w7.drew q 225 cur:=hW7
    clear HI7 hW7 i0 i1 hin
    generalize w7.drew=w8 at *
    have HAD:=Lib.hid (addNode_any w8 q (n * 4+2) _ cur _ _ (sizeTys f.ts[f.k].args) (depthTys f.ts[f.k].args) hW8 d2 d3 (by omega) (by omega))
    have HW8:=Lib.hid hW8
    have D0:=Lib.hid d0
    have D1:=Lib.hid d1
    have D2:=Lib.hid d2
    have D3:=Lib.hid d3
    clear hW8 d0 d1 d2 d3
    go_wp2_with fail
    refine HAD.out.mono ?_
    rintro e w9 ⟨rfl,hW9,hg9⟩
    have hs1':n * 4+3<cur.size:=(Array.getElem?_eq_some_iff.1 D3.out).1
    have e1:w9.cell? ⟨q,n * 4+1,none⟩=some (.int .i64 (f.k:Int)):=(hW9.cell _).trans (by rw [Array.getElem?_setIfInBounds,if_neg (by omega),Array.getElem?_setIfInBounds,if_neg (by omega)];exact D1.out)
    have f1:w9.frozen? ⟨q,n * 4+1,none⟩=false:=hW9.free _
    have HW9:=Lib.hid (hW9.set (n * 4+1) (.int .i64 ((f.k+1:Nat):Int)))
    have HG9:=Lib.hid (only_set hg9 (n * 4+1) (.int .i64 ((f.k+1:Nat):Int)))
    clear hW9 hg9 HAD
    go_wp2
    have hn2:=HN.out
    subst hn2
    go_roundg (mu { f with k:=f.k+1 } r false)
    case measure=>rw [← HMU.out];exact mu_add f r ret hk
    case rel=>
     refine ⟨_,r,F,false,HI8.out.add hk (by omega) (by omega) HW8.out HW9.out HG9.out (by simp) (fun i hi=>?_) ?_ ?_ ?_,rfl⟩
     ·rw [Array.getElem?_setIfInBounds,if_neg (by omega),Array.getElem?_setIfInBounds,if_neg (by omega),Array.getElem?_setIfInBounds,if_neg (by omega)]
     ·rw [Array.getElem?_setIfInBounds,if_pos rfl,if_pos (by simp;omega)]
     ·rw [Array.getElem?_setIfInBounds,if_neg (by omega),Array.getElem?_setIfInBounds,if_neg (by omega),Array.getElem?_setIfInBounds,if_pos rfl,if_pos (by omega),hst.out,HSE.out]
      congr 3
      omega
     ·rw [Array.getElem?_setIfInBounds,if_neg (by omega),Array.getElem?_setIfInBounds,if_pos rfl,if_pos (by simp;omega),hdt.out,HDE.out]
   | none=>
    obtain ⟨hret,h0,g',rfl,rfl,hargs⟩:=HNW.out hF
    subst hret
    rw [hF] at hlook
    have hl2:(Instr.lookup 220 (.map (some (w.heap.size+2))) (plVal (some (g',f.ts[f.k].args.length))) true).run Tryz.prog w6=.ok (.tuple #[.agg #[.int .i64 0,.int .i64 0],.bool false]) w6:=hlook
    have HARG:=Lib.hid hargs
    have H0:=Lib.hid h0
    clear hlook hF hargs h0 HNW HRI
    go_upto_region 15 with fail
    have hb7:=(Below.refl w6.heap.size w6).alloc (Nat.le_refl _) (.cells #[.int .i64 0,.int .i64 0] 166)
    have HI7:=Lib.hid (HI6.out.below HI6.out.call.size hb7)
    clear hl2 HI6 hW6 hb7 d0 d1 d2 d3
    generalize w6.alloc (.cells #[.int .i64 0,.int .i64 0] 166)=w7 at *
    go_wp2_with fail
    refine (HPL.out w7).mono ?_
    rintro e w8 ⟨rfl,hb8⟩
    have hI8:=HI7.out.below HI7.out.call.size hb8
    obtain ⟨w9,hrun9,hkn9,ho9⟩:=hI8.known.store (plKit w1 (w.heap.size+4) (w.heap.size+2)) Tryz.underlying220 hI8.keep HOK.out (.agg #[.int .i64 9223372036854775807,.int .i64 9223372036854775807])
    have hqb:q<w8.heap.size:=(hI8.own.lt q rfl).2
    have hmb8:=hI8.known.lt
    have hown9:=owns_keep4 hI8.own fun g hg=>ho9.1.block g (hI8.own.lt g hg).2 (fun e=>by have:=(hI8.own.lt g hg).1;injection e with e;omega)
    have hown10:=hown9.alloc (.cells #[.slice (some ⟨g',0,none⟩) f.ts[f.k].args.length ac',.int .i64 0,.int .i64 0,.int .i64 0] 225)
    rw [← HN.out] at hown10
    have HKN:=Lib.hid hkn9
    have HO9:=Lib.hid ho9
    have HI8:=Lib.hid hI8
    have HS9:=Lib.hid ho9.2
    have hz8:=hI8.size
    have hc8:=hI8.call.size
    obtain ⟨i1,hi1,hy0,hy1,hy2⟩:=info_parts infoVisit
    clear HI7 hb8 hI8 hkn9 ho9 hown9
    go_wp2_with (at_builtin;refine wpList_append_cells _ rfl (.tmp 92) (.tmp 95) _ rfl (w.heap.size+4) 225 i1 (.agg #[.slice none 0 0,.int .i64 0,.int .i64 0,.int .i64 0]) 4 48 Tryz.underlying226 hi1 hy0 hy1 hy2 rfl (by decide) _ (n+1) _ rfl hown10 (some ⟨w9.heap.size,0,none⟩) 1 1 [.slice (some ⟨g',0,none⟩) f.ts[f.k].args.length ac',.int .i64 0,.int .i64 0,.int .i64 0] rfl rfl (news4 w9 _ _ _ _ _) (ones4 _ _ _ _) (by unfold maxLen;omega) (by omega) (by have:=HS9.out;simp;omega) ?_;intro v11 w11 hown11 hg11)
    have HOWN:=Lib.hid hown11
    have HG11:=Lib.hid hg11
    clear hown11 hg11 hown10 hrun9
    go_wp2
    go_roundg (mu ⟨g',ac',f.ts[f.k].args,0⟩ (f::r) false)
    case measure=>rw [← HMU.out];exact mu_push f r hk g' ac'
    case rel=>
     have hs9:=HS9.out
     have hblk:∀ g,g<w8.heap.size→g≠q→w11.heap[g]?=w9.heap[g]?:=fun g hg hne=>(HG11.out.block g (by simp;omega) (fun e=>hne (Option.some.inj e))).trans (Below.heap_alloc _ _ _ (by omega))
     have hcall9:Below w.heap.size w w9:=HI8.out.call.grown HO9.out.1 hc8 (fun k hk=>by cases hk;omega)
     have hcall:Below w.heap.size w w11:=(hcall9.alloc (by omega) _).grown HG11.out (by simp;omega) (fun k hk=>by cases hk;show w.heap.size≤q;omega)
     refine ⟨_,f::r,_,false,HI8.out.push hk g' ac' HC2.out HARG.out H0.out (HKN.out.keep (hblk _ hmb8 (by omega))) ?_ (fun g hg hne=>?_) hcall (by have:=HG11.out.size;simp at this;omega),rfl⟩
     ·have:=HOWN.out
      rw [HN.out] at this
      exact this
     ·exact (hblk g (by omega) (by omega)).trans ((HO9.out.1.block g (by omega) (fun e=>hne (Option.some.inj e))).trans (HI8.out.keep g hg hne))
end Go.Proofs.YtfnblkcmcfofoaaGreatDoor
namespace Go.Proofs.YtfnblkcmcfofoaaGreatDoor
set_option maxRecDepth 100000
open Go.RowKit
def OwnT (w:World) (v:Value) (t:Ty):Prop:=∃ S,TyIn w S v t∧∀ b,S b→b<w.heap.size
theorem OwnT.up {w w':World} {v:Value} {t:Ty} (h:OwnT w v t) (hb:Below w.heap.size w w'):OwnT w' v t:=by
 obtain ⟨S,h1,h2⟩:=h
 exact ⟨S,h1.keep fun b hb' hbl=>hb.block b hbl,fun b hb'=>Nat.lt_of_lt_of_le (h2 b hb') hb.size⟩
theorem OwnT.here {w:World} {v:Value} {t:Ty} (h:OwnT w v t):TyAt w w.heap.size v t:=by
 obtain ⟨S,h1,h2⟩:=h
 exact h1.here
theorem OwnT.of {w:World} {v:Value} {t:Ty} {a:Nat} (h:TyIn w (Span a w.heap.size) v t):OwnT w v t:=⟨_,h,fun _ hb=>hb.2⟩
def OwnTs (w:World) (A:Option Addr) (ts:List Ty):Prop:=∃ S,TysIn w S A ts∧∀ b,S b→b<w.heap.size
theorem OwnTs.up {w w':World} {A:Option Addr} {ts:List Ty} (h:OwnTs w A ts) (hb:Below w.heap.size w w'):OwnTs w' A ts:=by
 obtain ⟨S,h1,h2⟩:=h
 exact ⟨S,h1.keep fun b hb' hbl=>hb.block b hbl,fun b hb'=>Nat.lt_of_lt_of_le (h2 b hb') hb.size⟩
theorem OwnTs.here {w:World} {A:Option Addr} {ts:List Ty} (h:OwnTs w A ts):TysAt w w.heap.size A ts:=by
 obtain ⟨S,h1,h2⟩:=h
 exact h1.here
theorem OwnT.open {w:World} {v:Value} {t:Ty} (h:OwnT w v t):∃ L lc A ac,v=.agg #[.int .i64 t.kind,.slice L t.labels.length lc,.slice A t.args.length ac]∧t.labels.length≤maxLen∧(∀ i,(h:i<t.labels.length)→t.labels[i].size≤maxLen)∧StrsAt w w.heap.size L t.labels∧OwnTs w A t.args:=by
 obtain ⟨S,h1,h2⟩:=h
 obtain ⟨L,lc,A,ac,gl,hv,hn,hz,hl,ha⟩:=h1.open
 refine ⟨L,lc,A,ac,hv,hn,hz,?_,_,ha,fun b hb=>h2 b hb.1⟩
 rcases hl with h0 | ⟨rfl,_,h4⟩
 ·rw [h0]
  exact StrsAt.empty _ _ _
 ·exact h4.at _ h4.lt
theorem OwnTs.elem {w:World} {A:Option Addr} {ts:List Ty} (h:OwnTs w A ts) (i:Nat) (hi:i<ts.length):∃ g L lc A' ac,A=some ⟨g,0,none⟩∧g<w.heap.size∧w.cell? ⟨g,i * 3,none⟩=some (.int .i64 ts[i].kind)∧w.cell? ⟨g,i * 3+1,none⟩=some (.slice L ts[i].labels.length lc)∧
  w.cell? ⟨g,i * 3+2,none⟩=some (.slice A' ts[i].args.length ac)∧OwnT w (.agg #[.int .i64 ts[i].kind,.slice L ts[i].labels.length lc,.slice A' ts[i].args.length ac]) ts[i]:=by
 obtain ⟨S,⟨hm,ga,vs,Ss,h1,h2,h3,h4⟩,hS⟩:=h
 rcases h1 with rfl | ⟨rfl,h5,h6⟩
 ·exact absurd hi (by simp)
 ·obtain ⟨L,lc,A',ac,gl,hv,_⟩:=(h4 i hi).open
  have c0:=h6.cell i 0 hi (by omega)
  have c1:=h6.cell i 1 hi (by omega)
  have c2:=h6.cell i 2 hi (by omega)
  have ht:=h4 i hi
  rw [hv] at c0 c1 c2 ht
  exact ⟨ga,L,lc,A',ac,rfl,h6.lt,c0,c1,c2,_,ht,fun b hb=>hS b (h2 i hi b hb).1⟩
theorem ext_field0 (a b:Int) (w:World):(Instr.field 166 (.agg #[.int .i64 a,.int .i64 b]) 0).run Tryz.prog w=.ok (.int .i64 a) w:=by kernel_rfl
theorem implSizeOf_any (t:Ty) (v:Value) (w:World) (hv:OwnT w v t) (hsz:sizeTy t≤2000000):Calls Tryz.prog 146 #[v] w (IntBelow (sizeTy t) w):=by
 obtain ⟨L,lc,A,ac,rfl,_⟩:=hv.open
 obtain ⟨hb0,p0,hs0⟩:=boxes1 w 27 #[.int .i64 t.kind,.slice L t.labels.length lc,.slice A t.args.length ac]
 have hv0:=hv.up hb0
 go_enter Tryz.func146,Tryz.ntmps146
 go_wp2_with fail
 have hfd:=ext_field0
 obtain ⟨S,h1,h2⟩:=hv0
 refine (extentOf_any t _ S _ h1 h2 hsz).mono ?_
 rintro e w1 ⟨rfl,hb1⟩
 go_wp2
 go_ret
 exact ⟨rfl,hb0.trans (hb1.mono hb0.size)⟩
end Go.Proofs.YtfnblkcmcfofoaaGreatDoor
