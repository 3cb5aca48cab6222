/- Lemmas: OImplSize. -/
import Derived.Test.YtfnblkcmcfofoaaGreatDoorLawFoci_23
import Derived.Test.YtfnblkcmcfofoaaGreatDoorLawFoci_24
import Derived.Test.YtfnblkcmcfofoaaGreatDoorLawFoci_14

namespace Go.Proofs.YtfnblkcmcfofoaaGreatDoor.O
set_option maxRecDepth 100000
open Go.RowKit
theorem placeOf_nil (A:Option Addr) (c:Nat) (w:World):Calls Tryz.prog 186 #[.slice A 0 c] w (PlaceRet w none):=by
 go_enter Tryz.func186,Tryz.ntmps186
 go_wp2
 refine bodyPost_ret (v:=.agg #[.pointer none,.int .i64 0]) (by simp [results,Tryz.results186,go_sem]) rfl ⟨rfl,(Below.refl _ _).alloc (Nat.le_refl _) _⟩
theorem placeOf_some (g n c:Nat) (w:World) (h:0<n):Calls Tryz.prog 186 #[.slice (some ⟨g,0,none⟩) n c] w (PlaceRet w (some (g,n))):=by
 have h0:((n:Int) == 0)=false:=by rw [beq_eq_false_iff_ne];omega
 have h1:(0:Int)<(n:Int):=by omega
 go_enter Tryz.func186,Tryz.ntmps186
 go_wp2
 refine bodyPost_ret (v:=.agg #[.pointer (some ⟨g,0,none⟩),.int .i64 (n:Int)]) (by simp [results,Tryz.results186,go_sem]) rfl ⟨rfl,(Below.refl _ _).alloc (Nat.le_refl _) _⟩
theorem argsOf_any (a b c d:Value) (w:World):Calls Tryz.prog 152 #[.agg #[a,b,c,d]] w fun en w'=>en=.returned d∧Below w.heap.size w w':=by
 have hb:=(Below.refl w.heap.size w).alloc (Nat.le_refl _) (.cells #[a,b,c,d] 30)
 obtain ⟨hb0,p0,hs0⟩:=boxes1 w 30 #[a,b,c,d]
 go_enter Tryz.func152,Tryz.ntmps152
 go_wp2
 go_ret
 exact ⟨rfl,hb⟩
end Go.Proofs.YtfnblkcmcfofoaaGreatDoor.O
namespace Go.Proofs.YtfnblkcmcfofoaaGreatDoor.O
set_option maxRecDepth 100000
open Go.RowKit
end Go.Proofs.YtfnblkcmcfofoaaGreatDoor.O
namespace Go.Proofs.YtfnblkcmcfofoaaGreatDoor.O
set_option maxRecDepth 100000
open Go.RowKit
theorem _root_.Go.Proofs.YtfnblkcmcfofoaaGreatDoor.OtsAt.uniq_of {w:World} {B B':Nat} {A:Option Addr} {ts ts':List Ot} (hu:∀ i,(h:i<ts.length)→∀ v B' t',OtAt w B v ts[i]→OtAt w B' v t'→ts[i]=t') (h:OtsAt w B A ts) (h':OtsAt w B' A ts') (hl:ts.length=ts'.length):ts=ts':=by
 obtain ⟨_,vs,h1,h2⟩:=h
 obtain ⟨_,vs',h1',h2'⟩:=h'
 refine List.ext_getElem hl fun i hi hi'=>?_
 obtain ⟨b,off,e,_,hc⟩:=h1 i hi
 obtain ⟨b',off',e',_,hc'⟩:=h1' i hi'
 rw [e] at e'
 cases e'
 have ht:=h2 i hi
 have ht':=h2' i hi'
 obtain ⟨A1,ac,hv,_⟩:=ht.open
 obtain ⟨A1',ac',hv',_⟩:=ht'.open
 have:vs i=vs' i:=by
  have c0:=(hc 0 (by omega)).symm.trans (hc' 0 (by omega))
  have c1:=(hc 1 (by omega)).symm.trans (hc' 1 (by omega))
  have c2:=(hc 2 (by omega)).symm.trans (hc' 2 (by omega))
  have c3:=(hc 3 (by omega)).symm.trans (hc' 3 (by omega))
  rw [hv,hv'] at c0 c1 c2 c3 ⊢
  simp [partAt] at c0 c1 c2 c3
  simp [c0,c1,c2,c3]
 rw [← this] at ht'
 exact hu i hi _ _ _ ht ht'
theorem _root_.Go.Proofs.YtfnblkcmcfofoaaGreatDoor.OtAt.uniq (t:Ot):∀ {w:World} {B B':Nat} {v:Value} {t':Ot},OtAt w B v t→OtAt w B' v t'→t=t':=by
 induction t using Ot.ind with
 | h k n nm ts ih=>
  intro w B B' v t' h h'
  obtain ⟨A,ac,hv,_,ha⟩:=h.open
  obtain ⟨A',ac',hv',_,ha'⟩:=h'.open
  rw [hv] at hv'
  simp at hv'
  obtain ⟨e1,em,en,e5,e6,e7⟩:=hv'
  subst e5
  have h2:=OtsAt.uniq_of (fun i hi v B' t' a b=>ih i hi a b) ha ha' e6
  cases t'
  simp only [Ot.kind,Ot.num,Ot.name,Ot.args] at *
  rw [e1,en,em,h2]
theorem _root_.Go.Proofs.YtfnblkcmcfofoaaGreatDoor.OtsIn.uniq {w:World} {S S':Nat→Prop} {A:Option Addr} {ts ts':List Ot} (h:OtsIn w S A ts) (h':OtsIn w S' A ts') (hl:ts.length=ts'.length):ts=ts':=
 OtsAt.uniq_of (fun _ _ _ _ _ a b=>OtAt.uniq _ a b) h.here h'.here hl
structure Fr where
 g:Nat
 c:Nat
 ts:List Ot
 k:Nat
def frCells (f:Fr):List Value:=[.slice (some ⟨f.g,0,none⟩) f.ts.length f.c,.int .i64 (f.k:Int),.int .i64 (sizeOts (f.ts.take f.k):Int),.int .i64 (depthOts (f.ts.take f.k):Int)]
def stkCells:List Fr→List Value | []=>[] | f::r=>stkCells r++frCells f
theorem stkCells_len:∀ l:List Fr,(stkCells l).length=l.length * 4
 | []=>rfl
 | f::r=>by
  rw [stkCells,List.length_append,stkCells_len r]
  simp [frCells]
  omega
def FrOk (w1:World) (B:Nat) (f:Fr):Prop:=f.ts≠[]∧OtsIn w1 (fun b=>b<B) (some ⟨f.g,0,none⟩) f.ts
def Link (w1:World) (f f':Fr):Prop:=∃ h:f.k<f.ts.length,f'.ts=f.ts[f.k].args∧w1.cell? ⟨f.g,f.k * 4+3,none⟩=some (.slice (some ⟨f'.g,0,none⟩) f'.ts.length f'.c)
def Stk (w1:World) (B:Nat) (ts0:List Ot):List Fr→Prop
 | []=>False
 | [f]=>FrOk w1 B f∧f.ts=ts0∧sizeOts f.ts≤2000000
 | f'::f::r=>FrOk w1 B f'∧Link w1 f f'∧Stk w1 B ts0 (f::r)
theorem Stk.ok {w1:World} {B:Nat} {ts0:List Ot} {f:Fr} {r:List Fr} (h:Stk w1 B ts0 (f::r)):FrOk w1 B f:=by
 cases r with
 | nil=>exact h.1
 | cons a r=>exact h.1
theorem Stk.top {w1:World} {B:Nat} {ts0:List Ot} {f:Fr} {r:List Fr} (h:Stk w1 B ts0 (f::r)) (k:Nat):Stk w1 B ts0 ({ f with k:=k }::r):=by
 cases r with
 | nil=>exact h
 | cons a r=>exact h
theorem sizeOts_part (ts:List Ot) (k:Nat) (h:k<ts.length):sizeOts ts[k].args<sizeOts ts:=by
 have h1:=sizeOts_take ts k h
 have h2:=sizeOts_le ts (k+1)
 have h3:=sizeOt_eq ts[k]
 omega
theorem Stk.small {w1:World} {B:Nat} {ts0:List Ot}:∀ {r:List Fr} {f:Fr},Stk w1 B ts0 (f::r)→∀ x ∈ r,sizeOts f.ts<sizeOts x.ts
 | [],_,_,x,hx=>absurd hx (by simp)
 | a::r,f,h,x,hx=>by
  obtain ⟨_,⟨hk,hts,_⟩,h3⟩:=h
  have:=sizeOts_part a.ts a.k hk
  rw [← hts] at this
  rcases List.mem_cons.1 hx with rfl | hx
  ·exact this
  ·exact Nat.lt_trans this (h3.small x hx)
theorem Stk.len {w1:World} {B:Nat} {ts0:List Ot}:∀ {r:List Fr} {f:Fr},Stk w1 B ts0 (f::r)→r.length+sizeOts f.ts≤2000000
 | [],_,h=>by simpa using h.2.2
 | a::r,f,h=>by
  obtain ⟨_,⟨hk,hts,_⟩,h3⟩:=h
  have:=sizeOts_part a.ts a.k hk
  rw [← hts] at this
  have:=h3.len
  simp only [List.length_cons]
  omega
theorem FrOk.elem {w1:World} {B:Nat} {f:Fr} (h:FrOk w1 B f) (k:Nat) (hk:k<f.ts.length):f.g<B∧∃ A' ac,w1.cell? ⟨f.g,k * 4,none⟩=some (.int .i64 f.ts[k].kind)∧w1.cell? ⟨f.g,k * 4+2,none⟩=some (.int .i64 f.ts[k].num)∧w1.cell? ⟨f.g,k * 4+1,none⟩=some (.string f.ts[k].name) ∧     w1.cell? ⟨f.g,k * 4+3,none⟩=some (.slice A' f.ts[k].args.length ac)∧OtsIn w1 (fun b=>b<B) A' f.ts[k].args∧f.ts[k].args.length≤maxLen:=by
 obtain ⟨h0,hm,ga,vs,Ss,h1,h2,h3,h4⟩:=h
 rcases h1 with h1 | ⟨h1,h5,h6⟩
 ·exact absurd h1 h0
 ·cases h1
  obtain ⟨A',ac,hv,_,ha⟩:=(h4 k hk).open
  have c0:=h6.cell k 0 hk (by omega)
  have c1:=h6.cell k 1 hk (by omega)
  have c2:=h6.cell k 2 hk (by omega)
  have c3:=h6.cell k 3 hk (by omega)
  rw [hv] at c0 c1 c2 c3
  refine ⟨h5,A',ac,c0,c2,c1,c3,?_,ha.1⟩
  obtain ⟨m0,ga',vs',Ss',m1,m2,m3,m4⟩:=ha
  exact ⟨m0,ga',vs',Ss',m1.imp id fun ⟨a,b,c⟩=>⟨a,(h2 k hk _ b).1,c⟩,fun i hi b hb=>⟨(h2 k hk _ (m2 i hi b hb).1).1,(m2 i hi b hb).2⟩,m3,m4⟩
theorem _root_.Go.Proofs.YtfnblkcmcfofoaaGreatDoor.OtsIn.addr {w1:World} {S:Nat→Prop} {A:Option Addr} {ts:List Ot} (h:OtsIn w1 S A ts) (h0:ts≠[]):∃ g cs,A=some ⟨g,0,none⟩∧S g∧Whole1 w1 g 30 cs:=by
 obtain ⟨_,ga,vs,Ss,h1,_⟩:=h
 rcases h1 with h1 | ⟨h1,h5,cs,h6,_⟩
 ·exact absurd h1 h0
 ·exact ⟨ga,cs,h1,h5,h6⟩
def extV (ts:List Ot):Value:=.agg #[.int .i64 (sizeOts ts:Int),.int .i64 (depthOts ts:Int)]
def bigV:Value:=.agg #[.int .i64 9223372036854775807,.int .i64 9223372036854775807]
structure Inv (w1:World) (B mb:Nat) (ts0:List Ot) (wc w:World) (v:Value) (f:Fr) (r:List Fr) (F:Pl→Option Value) (ret:Bool):Prop where
 own:w.ownsRow B 210 4 v (r.length+1) (stkCells r++frCells f)
 keep:PlWd w1 B mb w
 call:Below wc.heap.size wc w
 known:Known plVal (PlOk w1 B mb) w mb F
 zero:F none=some (extV [])
 vals:∀ g ts u,OtsIn w1 (fun b=>b<B) (some ⟨g,0,none⟩) ts→ts≠[]→F (some (g,ts.length))=some u→u=extV ts∨∃ x ∈ f::r,x.g=g∧x.ts.length=ts.length
 stk:Stk w1 B ts0 (f::r)
 le:f.k≤f.ts.length
 ret:ret=true→∃ (h:f.k<f.ts.length) (g c:Nat),w1.cell? ⟨f.g,f.k * 4+3,none⟩=some (.slice (some ⟨g,0,none⟩) f.ts[f.k].args.length c)∧F (some (g,f.ts[f.k].args.length))=some (extV f.ts[f.k].args)
 size:B≤w.heap.size
theorem Inv.right {w1 wc w:World} {B mb:Nat} {ts0:List Ot} {v:Value} {f:Fr} {r:List Fr} {F:Pl→Option Value} {ret:Bool} (h:Inv w1 B mb ts0 wc w v f r F ret) (hk:f.k<f.ts.length) (g:Nat) (hg:OtsIn w1 (fun b=>b<B) (some ⟨g,0,none⟩) f.ts[f.k].args) (h0:f.ts[f.k].args≠[]) (u:Value)
  (hu:F (some (g,f.ts[f.k].args.length))=some u):u=extV f.ts[f.k].args:=by
 rcases h.vals g _ u hg h0 hu with h1 | ⟨x,hx,rfl,hl⟩
 ·exact h1
 ·exfalso
  have hsz:=sizeOts_part f.ts f.k hk
  have hok:FrOk w1 B x:=by
   have:∀ (r:List Fr) (f:Fr),Stk w1 B ts0 (f::r)→x ∈ f::r→FrOk w1 B x:=by
    intro r
    induction r with
    | nil=>
     intro f hs hm
     have:x=f:=by simpa using hm
     rw [this]
     exact hs.ok
    | cons a r ih=>
     intro f hs hm
     rcases List.mem_cons.1 hm with rfl | hm
     ·exact hs.ok
     ·exact ih a hs.2.2 hm
   exact this r f h.stk hx
  have he:=hok.2.uniq hg hl
  rcases List.mem_cons.1 hx with rfl | hx
  ·have:=congrArg sizeOts he
   omega
  ·have h1:=h.stk.small x hx
   have h2:=congrArg sizeOts he
   omega
theorem okKey {w1:World} {B mb:Nat} (hmb:∀ (t:TypeId) (cs:Array Value),¬ Whole1 w1 mb t cs) {g:Nat} {ts:List Ot} (hg:OtsIn w1 (fun b=>b<B) (some ⟨g,0,none⟩) ts) (h0:ts≠[]) (n:Nat):PlOk w1 B mb (some (g,n)):=by
 intro g' n' e
 cases e
 obtain ⟨ga,cs,e,h1,h2⟩:=hg.addr h0
 cases e
 exact ⟨h1,fun e=>hmb _ _ (e ▸ h2),cs,_,h2⟩
def muRest:List Fr→Nat | []=>0 | f::r=>3 * sizeOts (f.ts.drop (f.k+1))+2+muRest r
def mu (f:Fr) (r:List Fr) (ret:Bool):Nat:=(if ret then 3 * sizeOts (f.ts.drop (f.k+1))+2 else 3 * sizeOts (f.ts.drop f.k)+1)+muRest r
theorem drop_size (ts:List Ot) (k:Nat) (h:k<ts.length):sizeOts (ts.drop k)=1+sizeOts ts[k].args+sizeOts (ts.drop (k+1)):=by
 rw [List.drop_eq_getElem_cons h,sizeOts,sizeOt_eq]
theorem mu_add (f:Fr) (r:List Fr) (ret:Bool) (h:f.k<f.ts.length):mu { f with k:=f.k+1 } r false<mu f r ret:=by
 unfold mu
 have:=drop_size f.ts f.k h
 cases ret<;>simp<;>omega
theorem mu_push (f:Fr) (r:List Fr) (h:f.k<f.ts.length) (g c:Nat):mu ⟨g,c,f.ts[f.k].args,0⟩ (f::r) false<mu f r false:=by
 unfold mu
 have:=drop_size f.ts f.k h
 simp [muRest]
 omega
theorem mu_pop (f f2:Fr) (r:List Fr) (ret:Bool):mu f2 r true<mu f (f2::r) ret:=by
 unfold mu
 cases ret<;>simp [muRest]<;>omega
section
variable {w1 wc w:World} {B mb:Nat} {ts0:List Ot} {v:Value} {f:Fr} {r:List Fr} {F:Pl→Option Value} {ret:Bool}
theorem Inv.below {w':World} (h:Inv w1 B mb ts0 wc w v f r F ret) (hB0:wc.heap.size≤w.heap.size) (hb:Below w.heap.size w w'):Inv w1 B mb ts0 wc w' v f r F ret:=
 { h with
  own:=owns_keep4 h.own fun g hg=>hb.block g (h.own.lt g hg).2
  keep:=fun g hg hne=>(hb.block g (Nat.lt_of_lt_of_le hg h.size)).trans (h.keep g hg hne)
  call:=h.call.trans (hb.mono hB0)
  known:=h.known.keep (hb.block mb h.known.lt)
  size:=Nat.le_trans h.size hb.size }
theorem Inv.pop {w':World} {f2:Fr} {q cap:Nat} (h:Inv w1 B mb ts0 wc w (.slice (some ⟨q,0,none⟩) (r.length+1+1) cap) f (f2::r) F ret) (hk:f.k=f.ts.length) (hmB:mb<B) (hmc:wc.heap.size≤mb) (ho:MapOnly mb w w') (hkn:Known plVal (PlOk w1 B mb) w' mb (put F (some (f.g,f.ts.length)) (extV f.ts))):
  Inv w1 B mb ts0 wc w' (.slice (some ⟨q,0,none⟩) (r.length+1) cap) f2 r (put F (some (f.g,f.ts.length)) (extV f.ts)) true:=by
 obtain ⟨hgb,hsz⟩:=ho
 have hst:=h.stk
 obtain ⟨hfo,⟨hlk,hts,hcell⟩,hst2⟩:=hst
 refine { own:=?_,keep:=fun g hg hne=>(hgb.block g (Nat.lt_of_lt_of_le hg h.size) (fun e=>hne (Option.some.inj e))).trans (h.keep g hg hne),call:=h.call.grown hgb (by have:=h.call.size;omega) (fun k hk=>by cases hk;exact hmc),known:=hkn,zero:=?_,vals:=?_,stk:=hst2,le:=Nat.le_of_lt hlk,ret:=fun _=>⟨hlk,f.g,f.c,by rw [hcell,hts],by rw [← hts,put_same]⟩,size:=by have:=h.size;omega }
 ·obtain ⟨q',cap',cur,he,hq,hW,hcap,hcap2,hcs,htk,_⟩:=row_top h.own (stkCells_len _)
  simp at he
  obtain ⟨rfl,rfl⟩:=he
  have hqm:q≠mb:=by have:=hq;omega
  exact row_pop hq ((hgb.block q hW.lt (fun e=>hqm (Option.some.inj e))).trans hW) hcap hcap2 hcs (stkCells_len (f2::r)) htk
 ·rw [put_other _ _ _ _ (by simp)]
  exact h.zero
 ·intro g ts u hg h0 hu
  by_cases he:(some (g,ts.length):Pl)=some (f.g,f.ts.length)
  ·simp at he
   obtain ⟨rfl,hl⟩:=he
   have:=hg.uniq hfo.2 hl
   subst this
   rw [put_same] at hu
   exact .inl (Option.some.inj hu).symm
  ·rw [put_other _ _ _ _ he] at hu
   rcases h.vals g ts u hg h0 hu with h1 | ⟨x,hx,h2,h3⟩
   ·exact .inl h1
   ·rcases List.mem_cons.1 hx with rfl | hx
    ·exact absurd (by rw [h2,h3]) he
    ·exact .inr ⟨x,hx,h2,h3⟩
theorem Inv.add {w':World} {q cap:Nat} {cur cur':Array Value} (h:Inv w1 B mb ts0 wc w (.slice (some ⟨q,0,none⟩) (r.length+1) cap) f r F ret) (hk:f.k<f.ts.length) (hmB:mb<B) (hcB:wc.heap.size≤B) (hW:Whole1 w q 210 cur) (hW':Whole1 w' q 210 cur')
  (hg:w.grownBy w' (some q)) (hcs:cur'.size=cur.size) (hold:∀ i:Nat,i≤r.length * 4→cur'[i]?=cur[i]?) (h1:cur'[r.length * 4+1]?=some (.int .i64 ((f.k+1:Nat):Int))) (h2:cur'[r.length * 4+2]?=some (.int .i64 (sizeOts (f.ts.take (f.k+1)):Int)))
  (h3:cur'[r.length * 4+3]?=some (.int .i64 (depthOts (f.ts.take (f.k+1)):Int))):Inv w1 B mb ts0 wc w' (.slice (some ⟨q,0,none⟩) (r.length+1) cap) { f with k:=f.k+1 } r F false:=by
 obtain ⟨q',cap',cur0,he,hq,hW0,hcap,hcap2,hcs0,htk,c0,_⟩:=row_top h.own (stkCells_len _)
 simp at he
 obtain ⟨rfl,rfl⟩:=he
 have hc:cur0=cur:=by
  unfold Whole1 at hW hW0
  rw [hW] at hW0
  injection hW0 with e
  injection e with e
  exact e.symm
 subst hc
 have hne:∀ g,g<B→g≠q:=fun g hg=>by omega
 refine { own:=?_,keep:=fun g hg' hne'=>(hg.block g (Nat.lt_of_lt_of_le hg' h.size) (fun e=>hne g hg' (Option.some.inj e))).trans (h.keep g hg' hne'),call:=h.call.grown hg h.call.size (fun k hk=>by cases hk;omega),known:=h.known.keep (hg.block mb h.known.lt (fun e=>hne mb hmB (Option.some.inj e))),zero:=h.zero,vals:=?_,stk:=h.stk.top _,le:=hk,ret:=fun e=>(by cases e),size:=Nat.le_trans h.size hg.size }
 ·refine row_of hq hW' hcap hcap2 (by rw [hcs,hcs0]) (stkCells_len r) ?_ (by rw [hold _ (Nat.le_refl _)];exact c0) h1 h2 h3
  rw [← htk]
  apply List.ext_getElem?
  intro i
  rw [List.getElem?_take,List.getElem?_take]
  by_cases hi:i<r.length * 4
  ·rw [if_pos hi,if_pos hi]
   simpa using hold i (by omega)
  ·rw [if_neg hi,if_neg hi]
 ·intro g ts u hg' h0 hu
  rcases h.vals g ts u hg' h0 hu with a | ⟨x,hx,b,c⟩
  ·exact .inl a
  ·rcases List.mem_cons.1 hx with rfl | hx
   ·exact .inr ⟨_,List.mem_cons_self,b,c⟩
   ·exact .inr ⟨x,List.mem_cons_of_mem _ hx,b,c⟩
theorem Inv.push {w':World} {v':Value} (h:Inv w1 B mb ts0 wc w v f r F ret) (hk:f.k<f.ts.length) (g c:Nat) (hcell:w1.cell? ⟨f.g,f.k * 4+3,none⟩=some (.slice (some ⟨g,0,none⟩) f.ts[f.k].args.length c)) (hg:OtsIn w1 (fun b=>b<B) (some ⟨g,0,none⟩) f.ts[f.k].args) (h0:f.ts[f.k].args≠[])
  (hkn:Known plVal (PlOk w1 B mb) w' mb (put F (some (g,f.ts[f.k].args.length)) bigV)) (hown:w'.ownsRow B 210 4 v' (r.length+1+1) ((stkCells r++frCells f)++frCells ⟨g,c,f.ts[f.k].args,0⟩)) (hkeep:PlWd w1 B mb w') (hcall:Below wc.heap.size wc w') (hB:B≤w'.heap.size):
  Inv w1 B mb ts0 wc w' v' ⟨g,c,f.ts[f.k].args,0⟩ (f::r) (put F (some (g,f.ts[f.k].args.length)) bigV) false:=by
 refine { own:=hown,keep:=hkeep,call:=hcall,known:=hkn,zero:=?_,vals:=?_,stk:=⟨⟨h0,hg⟩,⟨hk,rfl,hcell⟩,h.stk⟩,le:=Nat.zero_le _,ret:=fun e=>(by cases e),size:=hB }
 ·rw [put_other _ _ _ _ (by simp)]
  exact h.zero
 ·intro g' ts u hg' h0' hu
  by_cases he:(some (g',ts.length):Pl)=some (g,f.ts[f.k].args.length)
  ·simp at he
   exact .inr ⟨_,List.mem_cons_self,he.1.symm,he.2.symm⟩
  ·rw [put_other _ _ _ _ he] at hu
   rcases h.vals g' ts u hg' h0' hu with a | ⟨x,hx,b,c⟩
   ·exact .inl a
   ·exact .inr ⟨x,List.mem_cons_of_mem _ hx,b,c⟩
end
theorem Inv.start {wc w3 w1:World} {t:Ot} {S:Nat→Prop} {a b c d:Value} (hv:OtIn wc S (.agg #[a,b,c,d]) t) (hS:∀ b,S b→b<wc.heap.size) (hsz:sizeOt t≤2000000) (hb3:Below wc.heap.size wc w3) (hs3:w3.heap.size=wc.heap.size+2+1)
  (hk:Known plVal (PlOk wc 0 (wc.heap.size+2)) w3 (wc.heap.size+2) (put (fun _=>none) none (.agg #[.int .i64 0,.int .i64 0])))
  (hw1:(w3.alloc (.cells #[a,b,c,d] 30)).alloc (.cells #[.slice (some ⟨wc.heap.size+2+1,0,none⟩) 1 1,.int .i64 0,.int .i64 0,.int .i64 0] 210)=w1):
  Inv w1 (wc.heap.size+4) (wc.heap.size+2) [t] wc w1 (.slice (some ⟨wc.heap.size+2+1+1,0,none⟩) 1 1) ⟨wc.heap.size+3,1,[t],0⟩ [] (put (fun _=>none) none (.agg #[.int .i64 0,.int .i64 0])) false:=by
 have hs4:(w3.alloc (.cells #[a,b,c,d] 30)).heap.size=wc.heap.size+4:=by simp [hs3]
 have hb1:Below w3.heap.size w3 w1:=by
  rw [← hw1]
  exact ((Below.refl _ _).alloc (Nat.le_refl _) _).alloc (by simp) _
 have hs1:w1.heap.size=wc.heap.size+5:=by rw [← hw1];simp [hs3]
 have hcall:Below wc.heap.size wc w1:=hb3.trans (hb1.mono (by omega))
 have hroot:Whole1 w1 (wc.heap.size+3) 30 #[a,b,c,d]:=by
  rw [← hw1]
  refine (Below.heap_alloc _ _ _ (by omega)).trans ?_
  have:=Whole1.new w3 30 #[a,b,c,d]
  rw [hs3] at this
  exact this
 have htop:Whole1 w1 (wc.heap.size+4) 210 #[.slice (some ⟨wc.heap.size+2+1,0,none⟩) 1 1,.int .i64 0,.int .i64 0,.int .i64 0]:=by
  rw [← hw1]
  have:=Whole1.new (w3.alloc (.cells #[a,b,c,d] 30)) 210 #[.slice (some ⟨wc.heap.size+2+1,0,none⟩) 1 1,.int .i64 0,.int .i64 0,.int .i64 0]
  rw [hs4] at this
  exact this
 refine { own:=?_,keep:=fun _ _ _=>rfl,call:=hcall,known:=?_,zero:=?_,vals:=?_,stk:=?_,le:=Nat.zero_le _,ret:=fun e=>(by cases e),size:=by omega }
 ·exact ⟨rfl,.inr ⟨wc.heap.size+4,1,_,rfl,Nat.le_refl _,htop,Nat.le_refl _,by decide,rfl,rfl⟩⟩
 ·obtain ⟨es,clock,h1,h2,h3⟩:=hk
  exact ⟨es,clock,(hb1.block _ (by omega)).trans h1,fun e he=>by
   obtain ⟨k,k1,k2⟩:=h2 e he
   exact ⟨k,fun g n e=>absurd (k1 g n e).1 (Nat.not_lt_zero _),k2⟩,h3⟩
 ·rw [put_same]
  simp [extV,sizeOts,depthOts]
 ·intro g ts u _ _ hu
  rw [put_other _ _ _ _ (by simp)] at hu
  cases hu
 ·refine ⟨⟨by simp,by simp [maxLen],wc.heap.size+3,fun _=>.agg #[a,b,c,d],fun _=>S,.inr ⟨rfl,by omega,_,hroot,?_⟩,?_,?_,?_⟩,rfl,by simp [sizeOts];exact hsz⟩
  ·intro i hi j hj
   have hi0:i=0:=by simpa using hi
   subst hi0
   have:j=0∨j=1∨j=2∨j=3:=by omega
   rcases this with rfl | rfl | rfl | rfl<;>simp [partAt]
  ·intro i _ b hb
   have:=hS b hb
   exact ⟨by omega,by omega⟩
  ·intro i j hi hj hne
   simp at hi hj
   omega
  ·intro i hi
   have hi0:i=0:=by simpa using hi
   subst hi0
   exact hv.keep fun b hb _=>hcall.block b (hS b hb)
theorem Inv.next {w1 wc w:World} {B mb:Nat} {ts0:List Ot} {v:Value} {f:Fr} {r:List Fr} {F:Pl→Option Value} {ret:Bool} (h:Inv w1 B mb ts0 wc w v f r F ret) (hk:f.k<f.ts.length) (hmb:∀ (t:TypeId) (cs:Array Value),¬ Whole1 w1 mb t cs):
  ∃ A' ac key,f.g<B∧f.g≠mb∧w1.cell? ⟨f.g,f.k * 4,none⟩=some (.int .i64 f.ts[f.k].kind)∧w1.cell? ⟨f.g,f.k * 4+2,none⟩=some (.int .i64 f.ts[f.k].num)∧w1.cell? ⟨f.g,f.k * 4+1,none⟩=some (.string f.ts[f.k].name)∧w1.cell? ⟨f.g,f.k * 4+3,none⟩=some (.slice A' f.ts[f.k].args.length ac)∧
   (∀ W,Calls Tryz.prog 186 #[.slice A' f.ts[f.k].args.length ac] W (PlaceRet W key))∧PlOk w1 B mb key∧(∀ u,F key=some u→u=extV f.ts[f.k].args)∧
   (F key=none→ret=false∧f.ts[f.k].args≠[]∧∃ g',A'=some ⟨g',0,none⟩∧key=some (g',f.ts[f.k].args.length)∧OtsIn w1 (fun b=>b<B) (some ⟨g',0,none⟩) f.ts[f.k].args):=by
 have hfo:=h.stk.ok
 obtain ⟨hgB,A',ac,c0,cn,cm,c2,hargs,_⟩:=hfo.elem f.k hk
 obtain ⟨g0,cs0,e0,_,hw0⟩:=hfo.2.addr hfo.1
 cases e0
 have hgm:f.g≠mb:=fun e=>hmb _ _ (e ▸ hw0)
 by_cases h0:f.ts[f.k].args=[]
 ·refine ⟨A',ac,none,hgB,hgm,c0,cn,cm,c2,fun W=>?_,fun g n e=>(by cases e),fun u hu=>?_,fun hn=>?_⟩
  ·rw [h0]
   exact placeOf_nil A' ac W
  ·rw [h.zero] at hu
   rw [h0]
   exact (Option.some.inj hu).symm
  ·rw [h.zero] at hn
   cases hn
 ·obtain ⟨g',cs',rfl,_,_⟩:=hargs.addr h0
  refine ⟨_,ac,some (g',f.ts[f.k].args.length),hgB,hgm,c0,cn,cm,c2,fun W=>placeOf_some g' _ ac W (List.length_pos_iff.2 h0),okKey hmb hargs h0 _,fun u hu=>h.right hk g' hargs h0 u hu,fun hn=>⟨?_,h0,g',rfl,rfl,hargs⟩⟩
  cases hr:ret with
  | false=>rfl
  | true=>
   obtain ⟨_,g,c,hc,hF⟩:=h.ret hr
   rw [c2] at hc
   simp at hc
   rw [hc.1] at hn
   rw [hF] at hn
   cases hn
end Go.Proofs.YtfnblkcmcfofoaaGreatDoor.O
namespace Go.Proofs.YtfnblkcmcfofoaaGreatDoor.O
set_option maxRecDepth 100000
open Go.RowKit
theorem infoVisit:(Tryz.prog.info? 210).map (fun i=>(i.zero,i.size,i.bytes))=some (some (.agg #[.slice none 0 0,.int .i64 0,.int .i64 0,.int .i64 0]),4,48):=by kernel_rfl
def ExtRet (w:World) (t:Ot) (e:Ending) (w':World):Prop:=e=.returned (.agg #[.int .i64 (sizeOt t:Int),.int .i64 (depthOt t:Int)])∧Below w.heap.size w w'
set_option maxHeartbeats 4000000 in
theorem extentOf_any (t:Ot) (v:Value) (S:Nat→Prop) (w:World) (hv:OtIn w S v t) (hS:∀ b,S b→b<w.heap.size) (hsz:sizeOt t≤2000000):
  Calls Tryz.prog 151 #[v,.func (.func 152) #[] #[]] w (ExtRet w t):=by
 obtain ⟨A,ac,hv0,_,ha⟩:=hv.open
 have HV:=Lib.hid hv
 subst hv0
 clear hv ha
 have hmm:=@run_makeMap Tryz.prog
 obtain ⟨hb2,p2,r2,hs2⟩:=boxes2 w 30 166 #[.int .i64 t.kind,.string t.name,.int .i64 t.num,.slice A t.args.length ac] #[.int .i64 0,.int .i64 0]
 go_enter Tryz.func151,Tryz.ntmps151
 go_upto_region 1 with fail
 generalize (w.alloc (.cells #[.int .i64 t.kind,.string t.name,.int .i64 t.num,.slice A t.args.length ac] 30)).alloc (.cells #[.int .i64 0,.int .i64 0] 166)=w2 at *
 have hkn:Known plVal (PlOk w 0 (w.heap.size+2)) (w2.alloc (.map #[] 0)) (w.heap.size+2) (fun _=>none):=by rw [← hs2];exact Known.new w2
 obtain ⟨w3,hrun,hk3,ho3,hs3⟩:=hkn.store (plKit w 0 (w.heap.size+2)) Tryz.underlying205 (fun g hg=>absurd hg (Nat.not_lt_zero _)) (k:=none) (fun g n e=>by cases e) (.agg #[.int .i64 0,.int .i64 0])
 have hrun':(Instr.mapUpdate 205 (.map (some (w.heap.size+2))) (.agg #[.pointer none,.int .i64 0]) (.agg #[.int .i64 0,.int .i64 0])).run Tryz.prog (w2.alloc (.map #[] 0))=.ok () w3:=hrun
 simp only [World.size_alloc] at hs3
 have hb3:Below w.heap.size w w3:=(hb2.alloc hb2.size (.map #[] 0)).grown ho3 (by simp;omega) (fun q hq=>by cases hq;omega)
 have p3:Whole1 w3 w.heap.size 30 #[.int .i64 t.kind,.string t.name,.int .i64 t.num,.slice A t.args.length ac]:=(ho3.block _ (by simp;omega) (fun e=>by injection e with e;omega)).trans ((Below.heap_alloc _ _ _ (by omega)).trans p2)
 have r3:Whole1 w3 (w.heap.size+1) 166 #[.int .i64 0,.int .i64 0]:=(ho3.block _ (by simp;omega) (fun e=>by injection e with e;omega)).trans ((Below.heap_alloc _ _ _ (by omega)).trans r2)
 have HK:=Lib.hid hk3
 have HP:=Lib.hid p3
 have HR:=Lib.hid r3
 have q0:w3.cell? ⟨w.heap.size,0,none⟩=some (.int .i64 t.kind):=p3.cell 0
 have qn:w3.cell? ⟨w.heap.size,2,none⟩=some (.int .i64 t.num):=p3.cell 2
 have qm:w3.cell? ⟨w.heap.size,1,none⟩=some (.string t.name):=p3.cell 1
 have q2:w3.cell? ⟨w.heap.size,3,none⟩=some (.slice A t.args.length ac):=p3.cell 3
 rw [hs2] at hs3
 clear p2 r2 hk3 p3 r3 hkn hrun ho3
 go_upto_region 3 with fail
 clear hrun' hmm hb2 hs2
 go_wp2
 generalize hw1:(w3.alloc (.cells #[.int .i64 t.kind,.string t.name,.int .i64 t.num,.slice A t.args.length ac] 30)).alloc _=w1
 have hstart:=Inv.start HV.out hS hsz hb3 hs3 HK.out hw1
 have HR1:Hid (Whole1 w1 (w.heap.size+1) 166 #[.int .i64 0,.int .i64 0]):=by
  apply Lib.hid
  rw [← hw1]
  exact (Below.heap_alloc _ _ _ (by simp;omega)).trans ((Below.heap_alloc _ _ _ (by omega)).trans HR.out)
 have hs1:w1.heap.size=w.heap.size+5:=by rw [← hw1];simp [hs3]
 have hmb:∀ (t:TypeId) (cs:Array Value),¬ Whole1 w1 (w.heap.size+2) t cs:=by
  obtain ⟨es,clock,h1,_⟩:=hstart.known
  intro t cs h
  unfold Whole1 at h
  rw [h1] at h
  cases h
 have HMB:=Lib.hid hmb
 clear HK HP HR HV hw1 hb3 hs3 q0 qn qm q2 hmb
 go_loopg [6] (mu ⟨w.heap.size+3,1,[t],0⟩ [] false) (fun gn v wr=>∃ f r F ret,Inv w1 (w.heap.size+4) (w.heap.size+2) [t] w wr v f r F ret∧mu f r ret=gn)
 case atStart=>exact ⟨_,_,_,_,hstart,rfl⟩
 case round=>
  clear hstart
  obtain ⟨f,r,F,ret,hI,hmu⟩:=hrel
  have hlen:=hI.stk.len
  have hfok:=hI.stk.ok
  have hfl:=hfok.2.1
  unfold maxLen at hfl
  have hfle:=hI.le
  have hwz:=hI.size
  have hcz:=hI.call.size
  have HF:=Lib.hid hfok
  obtain ⟨q,cap,cur,rfl,hq,hW,hcap,hcap2,hcs,htk,d0,d1,d2,d3⟩:=row_top (hI.own) (stkCells_len r)
  have HI:=Lib.hid hI
  have HMU:=Lib.hid hmu
  have hql:=hW.lt
  clear hI hmu hfok htk
  obtain ⟨n,hn⟩:∃ n,n=r.length:=⟨_,rfl⟩
  have HN:=Lib.hid hn
  rw [← hn] at d0 d1 d2 d3 hcap hlen ⊢
  clear hn
  have hszk:=sizeOts_le f.ts f.k
  have hdpk:=depths_le_sizesO (f.ts.take f.k)
  have hlt0:(n:Int)<(n:Int)+1:=by omega
  by_cases hke:f.k=f.ts.length
  ·have hkI:((f.k:Int) == (f.ts.length:Int))=true:=by rw [beq_iff_eq];omega
   by_cases hn0:n=0
   ·subst hn0
    have e0:wr.cell? ⟨q,0,none⟩=some (.slice (some ⟨f.g,0,none⟩) f.ts.length f.c):=(hW.cell _).trans (by simpa using d0)
    have e1:wr.cell? ⟨q,1,none⟩=some (.int .i64 (f.k:Int)):=(hW.cell _).trans (by simpa using d1)
    have e2:wr.cell? ⟨q,2,none⟩=some (.int .i64 (sizeOts (f.ts.take f.k):Int)):=(hW.cell _).trans (by simpa using d2)
    have e3:wr.cell? ⟨q,3,none⟩=some (.int .i64 (depthOts (f.ts.take f.k):Int)):=(hW.cell _).trans (by simpa using d3)
    have hR:Whole1 wr (w.heap.size+1) 166 #[.int .i64 0,.int .i64 0]:=(HI.out.keep _ (by omega) (by omega)).trans HR1.out
    have z0:wr.cell? ⟨w.heap.size+1,0,none⟩=some (.int .i64 0):=hR.cell 0
    have z1:wr.cell? ⟨w.heap.size+1,1,none⟩=some (.int .i64 0):=hR.cell 1
    have f0:wr.frozen? ⟨w.heap.size+1,0,none⟩=false:=hR.free 0
    have f1:wr.frozen? ⟨w.heap.size+1,1,none⟩=false:=hR.free 1
    clear hR
    go_upto_region 5 with fail
    clear hke
    go_quiet (fail)
    go_wp2
    have hx:sizeOts (f.ts.take f.k)=sizeOt t∧depthOts (f.ts.take f.k)=depthOt t:=by
     have h1:f.k=f.ts.length:=by have:=beq_iff_eq.1 hkI;omega
     have h2:f.ts=[t]:=by
      have h3:=HI.out.stk
      have h4:r=[]:=List.length_eq_zero_iff.1 HN.out.symm
      rw [h4] at h3
      exact h3.2.1
     rw [h1,List.take_length,h2]
     simp [sizeOts,depthOts]
    have hcall:=HI.out.call
    rw [hx.1,hx.2]
    refine bodyPost_ret (v:=.agg #[.int .i64 (sizeOt t:Int),.int .i64 (depthOt t:Int)]) (by simp [results,Tryz.results151,go_sem,z0,z1]) rfl ⟨rfl,(Below.setCell (p:=⟨w.heap.size+1,0,none⟩) (hcall.trans (b:=wr) (c:=wr.drewN nq) ⟨rfl,rfl,rfl,Nat.le_refl _,fun _ _=>rfl⟩) (by simp) _).setCell (p:=⟨w.heap.size+1,1,none⟩) (by simp) _⟩
   ·obtain ⟨f2,r2,hr⟩:∃ f2 r2,r=f2::r2:=by
     have:=HN.out
     cases r with
     | nil=>exact absurd this hn0
     | cons f2 r2=>exact ⟨f2,r2,rfl⟩
    have hnI:((n:Int)+1 == 1)=false:=by rw [beq_eq_false_iff_ne];omega
    have hpos:0<f.ts.length:=List.length_pos_iff.2 HF.out.1
    have HNP:=Lib.hid hn0
    have e0:wr.cell? ⟨q,n * 4,none⟩=some (.slice (some ⟨f.g,0,none⟩) f.ts.length f.c):=(hW.cell _).trans d0
    have e1:wr.cell? ⟨q,n * 4+1,none⟩=some (.int .i64 (f.k:Int)):=(hW.cell _).trans d1
    clear hke hn0 d0 d1
    go_upto_region 5 with fail
    go_quiet (fail)
    have HIa:=Lib.hid (HI.out.below hcz ⟨rfl,rfl,rfl,Nat.le_refl _,fun _ _=>rfl⟩:Inv w1 (w.heap.size+4) (w.heap.size+2) [t] w (wr.drewN nq) _ f r F ret)
    have hWa:Whole1 (wr.drewN nq) q 210 cur:=hW
    have hqla:q<(wr.drewN nq).heap.size:=hql
    have e0a:(wr.drewN nq).cell? ⟨q,n * 4,none⟩=some (.slice (some ⟨f.g,0,none⟩) f.ts.length f.c):=e0
    clear e0 e1 HI hW hql hwz hcz
    generalize wr.drewN nq=wa at *
    have e2:wa.cell? ⟨q,n * 4+2,none⟩=some (.int .i64 (sizeOts (f.ts.take f.k):Int)):=(hWa.cell _).trans d2
    have e3:wa.cell? ⟨q,n * 4+3,none⟩=some (.int .i64 (depthOts (f.ts.take f.k):Int)):=(hWa.cell _).trans d3
    clear d2 d3
    go_upto_region 8 with fail
    have ed:=(Below.refl wa.heap.size wa).drew
    have k0:=dC e0a
    have k2:=dC e2
    have k3:=dC e3
    go_region_held3 (fun x=>x.cell? ⟨q,n * 4,none⟩=some (.slice (some ⟨f.g,0,none⟩) f.ts.length f.c)∧x.cell? ⟨q,n * 4+2,none⟩=some (.int .i64 (sizeOts (f.ts.take f.k):Int))∧x.cell? ⟨q,n * 4+3,none⟩=some (.int .i64 (depthOts (f.ts.take f.k):Int)))
     (first | (with_reducible exact ⟨k0,k2,k3⟩) | (with_reducible exact ⟨m0,m2,m3⟩) | (with_reducible exact ⟨o0,o2,o3⟩))
     (first | (go_at_call 186;refine (placeOf_some f.g f.ts.length f.c _ hpos).mono ?_;rintro e w' ⟨rfl,hb1⟩;have hb2:=ed.trans hb1;have m0:=(kC hb2 e0a hqla);have m2:=(kC hb2 e2 hqla);have m3:=(kC hb2 e3 hqla);have hI5:=HIa.out.below HIa.out.call.size hb2;obtain ⟨w5,hrun5,hkn5,ho5⟩:=hI5.known.store (plKit w1 (w.heap.size+4) (w.heap.size+2)) Tryz.underlying205 hI5.keep (okKey HMB.out HF.out.2 HF.out.1 f.ts.length) (.agg #[.int .i64 (sizeOts (f.ts.take f.k):Int),.int .i64 (depthOts (f.ts.take f.k):Int)]);have hq5:=ho5.1.block q (Nat.lt_of_lt_of_le hqla hb2.size) (fun e=>by injection e with e;omega);have o0:=(World.cell?_of_block (a:=⟨q,n * 4,none⟩) hq5).trans m0;have o2:=(World.cell?_of_block (a:=⟨q,n * 4+2,none⟩) hq5).trans m2;have o3:=(World.cell?_of_block (a:=⟨q,n * 4+3,none⟩) hq5).trans m3))
    have HI5:=Lib.hid hI5
    have HK5:=Lib.hid hkn5
    have HO5:=Lib.hid ho5
    have HR5:=Lib.hid hr
    have hnc:(n:Int)≤(cap:Int):=by omega
    clear hI5 hkn5 ho5 hrun5 hr hq5 o0 o2 o3 m0 m2 m3 k0 k2 k3 e0a e2 e3
    go_wp2
    have hr:=HR5.out
    subst hr
    have hn2:n=r2.length+1:=HN.out
    subst hn2
    go_roundg (mu f2 r2 true)
    case measure=>rw [← HMU.out];exact mu_pop f f2 r2 ret
    case rel=>
     have hke:f.k=f.ts.length:=by have:=beq_iff_eq.1 hkI;omega
     have hkn:=HK5.out
     rw [hke,List.take_length] at hkn
     exact ⟨f2,r2,_,true,HI5.out.pop hke (by omega) (by omega) HO5.out hkn,rfl⟩
  ·have hk:f.k<f.ts.length:=by omega
   have hkI:((f.k:Int) == (f.ts.length:Int))=false:=by rw [beq_eq_false_iff_ne];omega
   have hkI2:(f.k:Int)<(f.ts.length:Int):=by omega
   obtain ⟨A',ac',key,hgB,hgm,c0,cn,cm,c2,hpl,hok,hright,hnew⟩:=HI.out.next hk HMB.out
   have HPL:=Lib.hid hpl
   have HOK:=Lib.hid hok
   have HRI:=Lib.hid hright
   have HNW:=Lib.hid hnew
   have HC2:=Lib.hid c2
   have hkeep:=fun (x:World) (hx:PlWd w1 (w.heap.size+4) (w.heap.size+2) x) (o:Nat)=>World.cell?_of_block (w:=w1) (w':=x) (a:=⟨f.g,o,none⟩) (hx f.g hgB hgm)
   have y0:=(hkeep wr HI.out.keep _).trans c0
   have yn:=(hkeep wr HI.out.keep _).trans cn
   have ym:=(hkeep wr HI.out.keep _).trans cm
   have y2:=(hkeep wr HI.out.keep _).trans c2
   have e0:wr.cell? ⟨q,n * 4,none⟩=some (.slice (some ⟨f.g,0,none⟩) f.ts.length f.c):=(hW.cell _).trans d0
   have e1:wr.cell? ⟨q,n * 4+1,none⟩=some (.int .i64 (f.k:Int)):=(hW.cell _).trans d1
   have hst:=Lib.hid (sizeOts_take f.ts f.k hk)
   have hdt:=Lib.hid (depthOts_take f.ts f.k hk)
   have hse:=sizeOt_eq f.ts[f.k]
   have hde:=depthOt_eq f.ts[f.k]
   have hle2:=sizeOts_le f.ts (f.k+1)
   have hds:=depths_le_sizesO f.ts[f.k].args
   have hsmall:sizeOts (f.ts.take f.k)+sizeOts f.ts[f.k].args+1≤2000000:=by have:=hst.out;omega
   have HSE:=Lib.hid hse
   have HDE:=Lib.hid hde
   clear hke hpl hok hright hnew hkeep c0 cn cm c2 hse hde hle2
   go_upto_region 5 with fail
   go_quiet (fail)
   have HIa:=Lib.hid (HI.out.below hcz ⟨rfl,rfl,rfl,Nat.le_refl _,fun _ _=>rfl⟩:Inv w1 (w.heap.size+4) (w.heap.size+2) [t] w (wr.drewN nq) _ f r F ret)
   have hWa:Whole1 (wr.drewN nq) q 210 cur:=hW
   have hqla:q<(wr.drewN nq).heap.size:=hql
   have e0a:(wr.drewN nq).cell? ⟨q,n * 4,none⟩=some (.slice (some ⟨f.g,0,none⟩) f.ts.length f.c):=e0
   have e1a:(wr.drewN nq).cell? ⟨q,n * 4+1,none⟩=some (.int .i64 (f.k:Int)):=e1
   have y0a:(wr.drewN nq).cell? ⟨f.g,f.k * 4,none⟩=some (.int .i64 f.ts[f.k].kind):=y0
   have yna:(wr.drewN nq).cell? ⟨f.g,f.k * 4+2,none⟩=some (.int .i64 f.ts[f.k].num):=yn
   have yma:(wr.drewN nq).cell? ⟨f.g,f.k * 4+1,none⟩=some (.string f.ts[f.k].name):=ym
   have y2a:(wr.drewN nq).cell? ⟨f.g,f.k * 4+3,none⟩=some (.slice A' f.ts[f.k].args.length ac'):=y2
   clear e0 e1 HI hW hql hwz hcz y0 yn ym y2
   generalize wr.drewN nq=wa at *
   go_upto_region 10 with fail
   refine wp_region_still_tail 11 (by kernel_rfl) (by kernel_rfl) ?_
   simp only [List.take_succ_cons,List.take_zero,List.drop_succ_cons,List.drop_zero]
   repeat still_step
   refine wpStill_nil ?_
   change wpList _ _ _ _ _ wa.drew
   have HIb:=Lib.hid (HIa.out.below HIa.out.call.size ⟨rfl,rfl,rfl,Nat.le_refl _,fun _ _=>rfl⟩:Inv w1 (w.heap.size+4) (w.heap.size+2) [t] w wa.drew _ f r F ret)
   have hWb:Whole1 wa.drew q 210 cur:=hWa
   have hqlb:q<wa.drew.heap.size:=hqla
   clear HIa hWa hqla e0a e1a y0a yna yma y2a
   generalize wa.drew=wb at *
   go_wp2_with fail
   refine (argsOf_any _ _ _ _ wb).mono ?_
   rintro e w5 ⟨rfl,hb5⟩
   have HI5:=Lib.hid (HIb.out.below HIb.out.call.size hb5)
   have hW5:=hWb.below hb5 hqlb
   have hql5:=hW5.lt
   clear HIb hWb hqlb hb5
   go_wp2_with fail
   refine (HPL.out w5).mono ?_
   rintro e w6 ⟨rfl,hb6⟩
   have hI6:=HI5.out.below HI5.out.call.size hb6
   have hW6:=hW5.below hb6 hql5
   have hql6:=hW6.lt
   have hlook:=hI6.known.look (plKit w1 (w.heap.size+4) (w.heap.size+2)) Tryz.underlying205 (zeroExtent w6) hI6.keep HOK.out
   have HI6:=Lib.hid hI6
   clear HI5 hW5 hql5 hb6 hI6
   cases hF:F key with
   | some u=>
    have hu:=HRI.out u hF
    subst hu
    rw [hF] at hlook
    have hl2:(Instr.lookup 205 (.map (some (w.heap.size+2))) (plVal key) true).run Tryz.prog w6=.ok (.tuple #[.agg #[.int .i64 (sizeOts f.ts[f.k].args:Int),.int .i64 (depthOts f.ts[f.k].args:Int)],.bool true]) w6:=hlook
    clear hlook hF
    go_upto_region 13 with fail
    have hb7:=(Below.refl w6.heap.size w6).alloc (Nat.le_refl _) (.cells #[.int .i64 (sizeOts f.ts[f.k].args:Int),.int .i64 (depthOts f.ts[f.k].args:Int)] 166)
    have HI7:=Lib.hid (HI6.out.below HI6.out.call.size hb7)
    have hW7:=hW6.below hb7 hql6
    have hin:=Whole1.new w6 166 #[.int .i64 (sizeOts f.ts[f.k].args:Int),.int .i64 (depthOts f.ts[f.k].args:Int)]
    clear hl2 HI6 hW6 hb7
    generalize w6.alloc (.cells #[.int .i64 (sizeOts f.ts[f.k].args:Int),.int .i64 (depthOts f.ts[f.k].args:Int)] 166)=w7 at *
    have i0:w7.cell? ⟨w6.heap.size,0,none⟩=some (.int .i64 (sizeOts f.ts[f.k].args:Int)):=hin.cell 0
    have i1:w7.cell? ⟨w6.heap.size,1,none⟩=some (.int .i64 (depthOts f.ts[f.k].args:Int)):=hin.cell 1
    refine wp_region_still_tail 4 (by kernel_rfl) (by kernel_rfl) ?_
    simp only [List.take_succ_cons,List.take_zero,List.drop_succ_cons,List.drop_zero]
    repeat still_step
    refine wpStill_nil ?_
    change wpList _ _ _ _ _ w7.drew
    have HI8:=Lib.hid (HI7.out.below HI7.out.call.size ⟨rfl,rfl,rfl,Nat.le_refl _,fun _ _=>rfl⟩:Inv w1 (w.heap.size+4) (w.heap.size+2) [t] w w7.drew _ f r F ret)
    have hW8:Whole1 w7.drew q 210 cur:=hW7
    clear HI7 hW7 i0 i1 hin
    generalize w7.drew=w8 at *
    have HAD:=Lib.hid (addNode_any w8 q (n * 4+2) _ cur _ _ (sizeOts f.ts[f.k].args) (depthOts f.ts[f.k].args) hW8 d2 d3 (by omega) (by omega))
    have HW8:=Lib.hid hW8
    have D0:=Lib.hid d0
    have D1:=Lib.hid d1
    have D2:=Lib.hid d2
    have D3:=Lib.hid d3
    clear hW8 d0 d1 d2 d3
    go_wp2_with fail
    refine HAD.out.mono ?_
    rintro e w9 ⟨rfl,hW9,hg9⟩
    have hs1':n * 4+3<cur.size:=(Array.getElem?_eq_some_iff.1 D3.out).1
    have e1:w9.cell? ⟨q,n * 4+1,none⟩=some (.int .i64 (f.k:Int)):=(hW9.cell _).trans (by rw [Array.getElem?_setIfInBounds,if_neg (by omega),Array.getElem?_setIfInBounds,if_neg (by omega)];exact D1.out)
    have f1:w9.frozen? ⟨q,n * 4+1,none⟩=false:=hW9.free _
    have HW9:=Lib.hid (hW9.set (n * 4+1) (.int .i64 ((f.k+1:Nat):Int)))
    have HG9:=Lib.hid (only_set hg9 (n * 4+1) (.int .i64 ((f.k+1:Nat):Int)))
    clear hW9 hg9 HAD
    go_wp2
    have hn2:=HN.out
    subst hn2
    go_roundg (mu { f with k:=f.k+1 } r false)
    case measure=>rw [← HMU.out];exact mu_add f r ret hk
    case rel=>
     refine ⟨_,r,F,false,HI8.out.add hk (by omega) (by omega) HW8.out HW9.out HG9.out (by simp) (fun i hi=>?_) ?_ ?_ ?_,rfl⟩
     ·rw [Array.getElem?_setIfInBounds,if_neg (by omega),Array.getElem?_setIfInBounds,if_neg (by omega),Array.getElem?_setIfInBounds,if_neg (by omega)]
     ·rw [Array.getElem?_setIfInBounds,if_pos rfl,if_pos (by simp;omega)]
     ·rw [Array.getElem?_setIfInBounds,if_neg (by omega),Array.getElem?_setIfInBounds,if_neg (by omega),Array.getElem?_setIfInBounds,if_pos rfl,if_pos (by omega),hst.out,HSE.out]
      congr 3
      omega
     ·rw [Array.getElem?_setIfInBounds,if_neg (by omega),Array.getElem?_setIfInBounds,if_pos rfl,if_pos (by simp;omega),hdt.out,HDE.out]
   | none=>
    obtain ⟨hret,h0,g',rfl,rfl,hargs⟩:=HNW.out hF
    subst hret
    rw [hF] at hlook
    have hl2:(Instr.lookup 205 (.map (some (w.heap.size+2))) (plVal (some (g',f.ts[f.k].args.length))) true).run Tryz.prog w6=.ok (.tuple #[.agg #[.int .i64 0,.int .i64 0],.bool false]) w6:=hlook
    have HARG:=Lib.hid hargs
    have H0:=Lib.hid h0
    clear hlook hF hargs h0 HNW HRI
    go_upto_region 15 with fail
    have hb7:=(Below.refl w6.heap.size w6).alloc (Nat.le_refl _) (.cells #[.int .i64 0,.int .i64 0] 166)
    have HI7:=Lib.hid (HI6.out.below HI6.out.call.size hb7)
    clear hl2 HI6 hW6 hb7 d0 d1 d2 d3
    generalize w6.alloc (.cells #[.int .i64 0,.int .i64 0] 166)=w7 at *
    go_wp2_with fail
    refine (HPL.out w7).mono ?_
    rintro e w8 ⟨rfl,hb8⟩
    have hI8:=HI7.out.below HI7.out.call.size hb8
    obtain ⟨w9,hrun9,hkn9,ho9⟩:=hI8.known.store (plKit w1 (w.heap.size+4) (w.heap.size+2)) Tryz.underlying205 hI8.keep HOK.out (.agg #[.int .i64 9223372036854775807,.int .i64 9223372036854775807])
    have hqb:q<w8.heap.size:=(hI8.own.lt q rfl).2
    have hmb8:=hI8.known.lt
    have hown9:=owns_keep4 hI8.own fun g hg=>ho9.1.block g (hI8.own.lt g hg).2 (fun e=>by have:=(hI8.own.lt g hg).1;injection e with e;omega)
    have hown10:=hown9.alloc (.cells #[.slice (some ⟨g',0,none⟩) f.ts[f.k].args.length ac',.int .i64 0,.int .i64 0,.int .i64 0] 210)
    rw [← HN.out] at hown10
    have HKN:=Lib.hid hkn9
    have HO9:=Lib.hid ho9
    have HI8:=Lib.hid hI8
    have HS9:=Lib.hid ho9.2
    have hz8:=hI8.size
    have hc8:=hI8.call.size
    obtain ⟨i1,hi1,hy0,hy1,hy2⟩:=info_parts infoVisit
    clear HI7 hb8 hI8 hkn9 ho9 hown9
    go_wp2_with (at_builtin;refine wpList_append_cells _ rfl (.tmp 92) (.tmp 95) _ rfl (w.heap.size+4) 210 i1 (.agg #[.slice none 0 0,.int .i64 0,.int .i64 0,.int .i64 0]) 4 48 Tryz.underlying211 hi1 hy0 hy1 hy2 rfl (by decide) _ (n+1) _ rfl hown10 (some ⟨w9.heap.size,0,none⟩) 1 1 [.slice (some ⟨g',0,none⟩) f.ts[f.k].args.length ac',.int .i64 0,.int .i64 0,.int .i64 0] rfl rfl (news4 w9 _ _ _ _ _) (ones4 _ _ _ _) (by unfold maxLen;omega) (by omega) (by have:=HS9.out;simp;omega) ?_;intro v11 w11 hown11 hg11)
    have HOWN:=Lib.hid hown11
    have HG11:=Lib.hid hg11
    clear hown11 hg11 hown10 hrun9
    go_wp2
    go_roundg (mu ⟨g',ac',f.ts[f.k].args,0⟩ (f::r) false)
    case measure=>rw [← HMU.out];exact mu_push f r hk g' ac'
    case rel=>
     have hs9:=HS9.out
     have hblk:∀ g,g<w8.heap.size→g≠q→w11.heap[g]?=w9.heap[g]?:=fun g hg hne=>(HG11.out.block g (by simp;omega) (fun e=>hne (Option.some.inj e))).trans (Below.heap_alloc _ _ _ (by omega))
     have hcall9:Below w.heap.size w w9:=HI8.out.call.grown HO9.out.1 hc8 (fun k hk=>by cases hk;omega)
     have hcall:Below w.heap.size w w11:=(hcall9.alloc (by omega) _).grown HG11.out (by simp;omega) (fun k hk=>by cases hk;show w.heap.size≤q;omega)
     refine ⟨_,f::r,_,false,HI8.out.push hk g' ac' HC2.out HARG.out H0.out (HKN.out.keep (hblk _ hmb8 (by omega))) ?_ (fun g hg hne=>?_) hcall (by have:=HG11.out.size;simp at this;omega),rfl⟩
     ·have:=HOWN.out
      rw [HN.out] at this
      exact this
     ·exact (hblk g (by omega) (by omega)).trans ((HO9.out.1.block g (by omega) (fun e=>hne (Option.some.inj e))).trans (HI8.out.keep g hg hne))
end Go.Proofs.YtfnblkcmcfofoaaGreatDoor.O
namespace Go.Proofs.YtfnblkcmcfofoaaGreatDoor.O
set_option maxRecDepth 100000
open Go.RowKit
def _root_.Go.Proofs.YtfnblkcmcfofoaaGreatDoor.OwnO (w:World) (v:Value) (t:Ot):Prop:=∃ S,OtIn w S v t∧∀ b,S b→b<w.heap.size
theorem _root_.Go.Proofs.YtfnblkcmcfofoaaGreatDoor.OwnO.up {w w':World} {v:Value} {t:Ot} (h:OwnO w v t) (hb:Below w.heap.size w w'):OwnO w' v t:=by
 obtain ⟨S,h1,h2⟩:=h
 exact ⟨S,h1.keep fun b hb' hbl=>hb.block b hbl,fun b hb'=>Nat.lt_of_lt_of_le (h2 b hb') hb.size⟩
theorem _root_.Go.Proofs.YtfnblkcmcfofoaaGreatDoor.OwnO.here {w:World} {v:Value} {t:Ot} (h:OwnO w v t):OtAt w w.heap.size v t:=by
 obtain ⟨S,h1,h2⟩:=h
 exact h1.here
theorem _root_.Go.Proofs.YtfnblkcmcfofoaaGreatDoor.OwnO.of {w:World} {v:Value} {t:Ot} {a:Nat} (h:OtIn w (Span a w.heap.size) v t):OwnO w v t:=⟨_,h,fun _ hb=>hb.2⟩
def _root_.Go.Proofs.YtfnblkcmcfofoaaGreatDoor.OwnOs (w:World) (A:Option Addr) (ts:List Ot):Prop:=∃ S,OtsIn w S A ts∧∀ b,S b→b<w.heap.size
theorem _root_.Go.Proofs.YtfnblkcmcfofoaaGreatDoor.OwnOs.up {w w':World} {A:Option Addr} {ts:List Ot} (h:OwnOs w A ts) (hb:Below w.heap.size w w'):OwnOs w' A ts:=by
 obtain ⟨S,h1,h2⟩:=h
 exact ⟨S,h1.keep fun b hb' hbl=>hb.block b hbl,fun b hb'=>Nat.lt_of_lt_of_le (h2 b hb') hb.size⟩
theorem _root_.Go.Proofs.YtfnblkcmcfofoaaGreatDoor.OwnOs.here {w:World} {A:Option Addr} {ts:List Ot} (h:OwnOs w A ts):OtsAt w w.heap.size A ts:=by
 obtain ⟨S,h1,h2⟩:=h
 exact h1.here
theorem _root_.Go.Proofs.YtfnblkcmcfofoaaGreatDoor.OwnO.open {w:World} {v:Value} {t:Ot} (h:OwnO w v t):∃ A ac,v=.agg #[.int .i64 t.kind,.string t.name,.int .i64 t.num,.slice A t.args.length ac]∧t.name.size≤maxLen∧OwnOs w A t.args:=by
 obtain ⟨S,h1,h2⟩:=h
 obtain ⟨A,ac,hv,hnm,ha⟩:=h1.open
 exact ⟨A,ac,hv,hnm,S,ha,h2⟩
theorem _root_.Go.Proofs.YtfnblkcmcfofoaaGreatDoor.OwnOs.elem {w:World} {A:Option Addr} {ts:List Ot} (h:OwnOs w A ts) (i:Nat) (hi:i<ts.length):∃ g A' ac,A=some ⟨g,0,none⟩∧g<w.heap.size∧w.cell? ⟨g,i * 4,none⟩=some (.int .i64 ts[i].kind)∧w.cell? ⟨g,i * 4+2,none⟩=some (.int .i64 ts[i].num)∧w.cell? ⟨g,i * 4+1,none⟩=some (.string ts[i].name) ∧     w.cell? ⟨g,i * 4+3,none⟩=some (.slice A' ts[i].args.length ac)∧OwnO w (.agg #[.int .i64 ts[i].kind,.string ts[i].name,.int .i64 ts[i].num,.slice A' ts[i].args.length ac]) ts[i]:=by
 obtain ⟨S,⟨hm,ga,vs,Ss,h1,h2,h3,h4⟩,hS⟩:=h
 rcases h1 with rfl | ⟨rfl,h5,h6⟩
 ·exact absurd hi (by simp)
 ·obtain ⟨A',ac,hv,_⟩:=(h4 i hi).open
  have c0:=h6.cell i 0 hi (by omega)
  have c1:=h6.cell i 1 hi (by omega)
  have c2:=h6.cell i 2 hi (by omega)
  have c3:=h6.cell i 3 hi (by omega)
  have ht:=h4 i hi
  rw [hv] at c0 c1 c2 c3 ht
  exact ⟨ga,A',ac,rfl,h6.lt,c0,c2,c1,c3,_,ht,fun b hb=>hS b (h2 i hi b hb).1⟩
theorem implSizeO_any (t:Ot) (v:Value) (w:World) (hv:OwnO w v t) (hsz:sizeOt t≤2000000):Calls Tryz.prog 109 #[v] w (IntBelow (sizeOt t) w):=by
 obtain ⟨A,ac,rfl,_⟩:=hv.open
 obtain ⟨hb0,p0,hs0⟩:=boxes1 w 30 #[.int .i64 t.kind,.string t.name,.int .i64 t.num,.slice A t.args.length ac]
 have hv0:=hv.up hb0
 go_enter Tryz.func109,Tryz.ntmps109
 go_wp2_with fail
 have hfd:=ext_field0
 obtain ⟨S,h1,h2⟩:=hv0
 refine (extentOf_any t _ S _ h1 h2 hsz).mono ?_
 rintro e w1 ⟨rfl,hb1⟩
 go_wp2
 go_ret
 exact ⟨rfl,hb0.trans (hb1.mono hb0.size)⟩
end Go.Proofs.YtfnblkcmcfofoaaGreatDoor.O
