/- Lemmas: VImplSize, ImplIsVal. -/
import Derived.Test.YtfnblkcmcfofoaaGreatDoorLawFoci_44
import Derived.Test.YtfnblkcmcfofoaaGreatDoorLawFoci_24
import Derived.Test.YtfnblkcmcfofoaaGreatDoorLawFoci_9
import Derived.Test.YtfnblkcmcfofoaaGreatDoorLawFoci_3

section
namespace Go.Proofs.YtfnblkcmcfofoaaGreatDoor.V
set_option maxRecDepth 100000
open Go.RowKit
end Go.Proofs.YtfnblkcmcfofoaaGreatDoor.V
namespace Go.Proofs.YtfnblkcmcfofoaaGreatDoor.V
set_option maxRecDepth 100000
open Go.RowKit
end Go.Proofs.YtfnblkcmcfofoaaGreatDoor.V
namespace Go.Proofs.YtfnblkcmcfofoaaGreatDoor.V
set_option maxRecDepth 100000
open Go.RowKit
theorem _root_.Go.Proofs.YtfnblkcmcfofoaaGreatDoor.VasAt.uniq_of {w:World} {B B':Nat} {A:Option Addr} {ts ts':List Va} (hu:∀ i,(h:i<ts.length)→∀ v B' t',VaAt w B v ts[i]→VaAt w B' v t'→ts[i]=t') (h:VasAt w B A ts) (h':VasAt w B' A ts') (hl:ts.length=ts'.length):ts=ts':=by
 obtain ⟨_,vs,h1,h2⟩:=h
 obtain ⟨_,vs',h1',h2'⟩:=h'
 refine List.ext_getElem hl fun i hi hi'=>?_
 obtain ⟨b,off,e,_,hc⟩:=h1 i hi
 obtain ⟨b',off',e',_,hc'⟩:=h1' i hi'
 rw [e] at e'
 cases e'
 have ht:=h2 i hi
 have ht':=h2' i hi'
 obtain ⟨L,lc,A1,ac,hv,_⟩:=ht.open
 obtain ⟨L',lc',A1',ac',hv',_⟩:=ht'.open
 have:vs i=vs' i:=by
  have c0:=(hc 0 (by omega)).symm.trans (hc' 0 (by omega))
  have c1:=(hc 1 (by omega)).symm.trans (hc' 1 (by omega))
  have c2:=(hc 2 (by omega)).symm.trans (hc' 2 (by omega))
  have c3:=(hc 3 (by omega)).symm.trans (hc' 3 (by omega))
  have c4:=(hc 4 (by omega)).symm.trans (hc' 4 (by omega))
  rw [hv,hv'] at c0 c1 c2 c3 c4 ⊢
  simp [partAt] at c0 c1 c2 c3 c4
  simp [c0,c1,c2,c3,c4]
 rw [← this] at ht'
 exact hu i hi _ _ _ ht ht'
theorem _root_.Go.Proofs.YtfnblkcmcfofoaaGreatDoor.VaAt.uniq (t:Va):∀ {w:World} {B B':Nat} {v:Value} {t':Va},VaAt w B v t→VaAt w B' v t'→t=t':=by
 induction t using Va.ind with
 | h k n nm ls ts ih=>
  intro w B B' v t' h h'
  obtain ⟨L,lc,A,ac,hv,_,_,_,hl,ha⟩:=h.open
  obtain ⟨L',lc',A',ac',hv',_,_,_,hl',ha'⟩:=h'.open
  rw [hv] at hv'
  simp at hv'
  obtain ⟨e1,en,em,⟨e2,e3,e4⟩,e5,e6,e7⟩:=hv'
  subst e2 e5
  have h1:=hl.uniq hl' e3
  have h2:=VasAt.uniq_of (fun i hi v B' t' a b=>ih i hi a b) ha ha' e6
  cases t'
  simp only [Va.kind,Va.num,Va.name,Va.labels,Va.args] at *
  rw [e1,en,em,h1,h2]
theorem _root_.Go.Proofs.YtfnblkcmcfofoaaGreatDoor.VasIn.uniq {w:World} {S S':Nat→Prop} {A:Option Addr} {ts ts':List Va} (h:VasIn w S A ts) (h':VasIn w S' A ts') (hl:ts.length=ts'.length):ts=ts':=
 VasAt.uniq_of (fun _ _ _ _ _ a b=>VaAt.uniq _ a b) h.here h'.here hl
structure Fr where
 g:Nat
 c:Nat
 ts:List Va
 k:Nat
def frCells (f:Fr):List Value:=[.slice (some ⟨f.g,0,none⟩) f.ts.length f.c,.int .i64 (f.k:Int),.int .i64 (sizeVas (f.ts.take f.k):Int),.int .i64 (depthVas (f.ts.take f.k):Int)]
def stkCells:List Fr→List Value | []=>[] | f::r=>stkCells r++frCells f
theorem stkCells_len:∀ l:List Fr,(stkCells l).length=l.length * 4
 | []=>rfl
 | f::r=>by
  rw [stkCells,List.length_append,stkCells_len r]
  simp [frCells]
  omega
def FrOk (w1:World) (B:Nat) (f:Fr):Prop:=f.ts≠[]∧VasIn w1 (fun b=>b<B) (some ⟨f.g,0,none⟩) f.ts
def Link (w1:World) (f f':Fr):Prop:=∃ h:f.k<f.ts.length,f'.ts=f.ts[f.k].args∧w1.cell? ⟨f.g,f.k * 5+4,none⟩=some (.slice (some ⟨f'.g,0,none⟩) f'.ts.length f'.c)
def Stk (w1:World) (B:Nat) (ts0:List Va):List Fr→Prop
 | []=>False
 | [f]=>FrOk w1 B f∧f.ts=ts0∧sizeVas f.ts≤2000000
 | f'::f::r=>FrOk w1 B f'∧Link w1 f f'∧Stk w1 B ts0 (f::r)
theorem Stk.ok {w1:World} {B:Nat} {ts0:List Va} {f:Fr} {r:List Fr} (h:Stk w1 B ts0 (f::r)):FrOk w1 B f:=by
 cases r with
 | nil=>exact h.1
 | cons a r=>exact h.1
theorem Stk.top {w1:World} {B:Nat} {ts0:List Va} {f:Fr} {r:List Fr} (h:Stk w1 B ts0 (f::r)) (k:Nat):Stk w1 B ts0 ({ f with k:=k }::r):=by
 cases r with
 | nil=>exact h
 | cons a r=>exact h
theorem sizeVas_part (ts:List Va) (k:Nat) (h:k<ts.length):sizeVas ts[k].args<sizeVas ts:=by
 have h1:=sizeVas_take ts k h
 have h2:=sizeVas_le ts (k+1)
 have h3:=sizeVa_eq ts[k]
 omega
theorem Stk.small {w1:World} {B:Nat} {ts0:List Va}:∀ {r:List Fr} {f:Fr},Stk w1 B ts0 (f::r)→∀ x ∈ r,sizeVas f.ts<sizeVas x.ts
 | [],_,_,x,hx=>absurd hx (by simp)
 | a::r,f,h,x,hx=>by
  obtain ⟨_,⟨hk,hts,_⟩,h3⟩:=h
  have:=sizeVas_part a.ts a.k hk
  rw [← hts] at this
  rcases List.mem_cons.1 hx with rfl | hx
  ·exact this
  ·exact Nat.lt_trans this (h3.small x hx)
theorem Stk.len {w1:World} {B:Nat} {ts0:List Va}:∀ {r:List Fr} {f:Fr},Stk w1 B ts0 (f::r)→r.length+sizeVas f.ts≤2000000
 | [],_,h=>by simpa using h.2.2
 | a::r,f,h=>by
  obtain ⟨_,⟨hk,hts,_⟩,h3⟩:=h
  have:=sizeVas_part a.ts a.k hk
  rw [← hts] at this
  have:=h3.len
  simp only [List.length_cons]
  omega
theorem FrOk.elem {w1:World} {B:Nat} {f:Fr} (h:FrOk w1 B f) (k:Nat) (hk:k<f.ts.length):f.g<B∧∃ L lc A' ac,w1.cell? ⟨f.g,k * 5,none⟩=some (.int .i64 f.ts[k].kind)∧w1.cell? ⟨f.g,k * 5+1,none⟩=some (.int .i64 f.ts[k].num)∧w1.cell? ⟨f.g,k * 5+2,none⟩=some (.string f.ts[k].name)∧w1.cell? ⟨f.g,k * 5+3,none⟩=some (.slice L f.ts[k].labels.length lc)∧
  w1.cell? ⟨f.g,k * 5+4,none⟩=some (.slice A' f.ts[k].args.length ac)∧VasIn w1 (fun b=>b<B) A' f.ts[k].args∧f.ts[k].args.length≤maxLen:=by
 obtain ⟨h0,hm,ga,vs,Ss,h1,h2,h3,h4⟩:=h
 rcases h1 with h1 | ⟨h1,h5,h6⟩
 ·exact absurd h1 h0
 ·cases h1
  obtain ⟨L,lc,A',ac,gl,hv,_,_,_,_,ha⟩:=(h4 k hk).open
  have c0:=h6.cell k 0 hk (by omega)
  have c1:=h6.cell k 1 hk (by omega)
  have c2:=h6.cell k 2 hk (by omega)
  have c3:=h6.cell k 3 hk (by omega)
  have c4:=h6.cell k 4 hk (by omega)
  rw [hv] at c0 c1 c2 c3 c4
  refine ⟨h5,L,lc,A',ac,c0,c1,c2,c3,c4,?_,ha.1⟩
  obtain ⟨m0,ga',vs',Ss',m1,m2,m3,m4⟩:=ha
  exact ⟨m0,ga',vs',Ss',m1.imp id fun ⟨a,b,c⟩=>⟨a,(h2 k hk _ b.1).1,c⟩,fun i hi b hb=>⟨(h2 k hk _ (m2 i hi b hb).1.1).1,(m2 i hi b hb).2⟩,m3,m4⟩
theorem _root_.Go.Proofs.YtfnblkcmcfofoaaGreatDoor.VasIn.addr {w1:World} {S:Nat→Prop} {A:Option Addr} {ts:List Va} (h:VasIn w1 S A ts) (h0:ts≠[]):∃ g cs,A=some ⟨g,0,none⟩∧S g∧Whole1 w1 g 41 cs:=by
 obtain ⟨_,ga,vs,Ss,h1,_⟩:=h
 rcases h1 with h1 | ⟨h1,h5,cs,h6,_⟩
 ·exact absurd h1 h0
 ·exact ⟨ga,cs,h1,h5,h6⟩
def extV (ts:List Va):Value:=.agg #[.int .i64 (sizeVas ts:Int),.int .i64 (depthVas ts:Int)]
def bigV:Value:=.agg #[.int .i64 9223372036854775807,.int .i64 9223372036854775807]
theorem okKey {w1:World} {B mb:Nat} (hmb:∀ (t:TypeId) (cs:Array Value),¬ Whole1 w1 mb t cs) {g:Nat} {ts:List Va} (hg:VasIn w1 (fun b=>b<B) (some ⟨g,0,none⟩) ts) (h0:ts≠[]) (n:Nat):PlOk w1 B mb (some (g,n)):=by
 intro g' n' e
 cases e
 obtain ⟨ga,cs,e,h1,h2⟩:=hg.addr h0
 cases e
 exact ⟨h1,fun e=>hmb _ _ (e ▸ h2),cs,_,h2⟩
def muRest:List Fr→Nat | []=>0 | f::r=>3 * sizeVas (f.ts.drop (f.k+1))+2+muRest r
def mu (f:Fr) (r:List Fr) (ret:Bool):Nat:=(if ret then 3 * sizeVas (f.ts.drop (f.k+1))+2 else 3 * sizeVas (f.ts.drop f.k)+1)+muRest r
theorem drop_size (ts:List Va) (k:Nat) (h:k<ts.length):sizeVas (ts.drop k)=1+sizeVas ts[k].args+sizeVas (ts.drop (k+1)):=by
 rw [List.drop_eq_getElem_cons h,sizeVas,sizeVa_eq]
theorem mu_add (f:Fr) (r:List Fr) (ret:Bool) (h:f.k<f.ts.length):mu { f with k:=f.k+1 } r false<mu f r ret:=by
 unfold mu
 have:=drop_size f.ts f.k h
 cases ret<;>simp<;>omega
theorem mu_push (f:Fr) (r:List Fr) (h:f.k<f.ts.length) (g c:Nat):mu ⟨g,c,f.ts[f.k].args,0⟩ (f::r) false<mu f r false:=by
 unfold mu
 have:=drop_size f.ts f.k h
 simp [muRest]
 omega
theorem mu_pop (f f2:Fr) (r:List Fr) (ret:Bool):mu f2 r true<mu f (f2::r) ret:=by
 unfold mu
 cases ret<;>simp [muRest]<;>omega
section
variable {w1 wc w:World} {B mb:Nat} {ts0:List Va} {v:Value} {f:Fr} {r:List Fr} {F:Pl→Option Value} {ret:Bool}
end
end Go.Proofs.YtfnblkcmcfofoaaGreatDoor.V
namespace Go.Proofs.YtfnblkcmcfofoaaGreatDoor.V
set_option maxRecDepth 100000
open Go.RowKit
def ExtRet (w:World) (t:Va) (e:Ending) (w':World):Prop:=e=.returned (.agg #[.int .i64 (sizeVa t:Int),.int .i64 (depthVa t:Int)])∧Below w.heap.size w w'
end Go.Proofs.YtfnblkcmcfofoaaGreatDoor.V
namespace Go.Proofs.YtfnblkcmcfofoaaGreatDoor.V
set_option maxRecDepth 100000
open Go.RowKit
def _root_.Go.Proofs.YtfnblkcmcfofoaaGreatDoor.OwnV (w:World) (v:Value) (t:Va):Prop:=∃ S,VaIn w S v t∧∀ b,S b→b<w.heap.size
theorem _root_.Go.Proofs.YtfnblkcmcfofoaaGreatDoor.OwnV.up {w w':World} {v:Value} {t:Va} (h:OwnV w v t) (hb:Below w.heap.size w w'):OwnV w' v t:=by
 obtain ⟨S,h1,h2⟩:=h
 exact ⟨S,h1.keep fun b hb' hbl=>hb.block b hbl,fun b hb'=>Nat.lt_of_lt_of_le (h2 b hb') hb.size⟩
theorem _root_.Go.Proofs.YtfnblkcmcfofoaaGreatDoor.OwnV.here {w:World} {v:Value} {t:Va} (h:OwnV w v t):VaAt w w.heap.size v t:=by
 obtain ⟨S,h1,h2⟩:=h
 exact h1.here
theorem _root_.Go.Proofs.YtfnblkcmcfofoaaGreatDoor.OwnV.of {w:World} {v:Value} {t:Va} {a:Nat} (h:VaIn w (Span a w.heap.size) v t):OwnV w v t:=⟨_,h,fun _ hb=>hb.2⟩
def _root_.Go.Proofs.YtfnblkcmcfofoaaGreatDoor.OwnVs (w:World) (A:Option Addr) (ts:List Va):Prop:=∃ S,VasIn w S A ts∧∀ b,S b→b<w.heap.size
theorem _root_.Go.Proofs.YtfnblkcmcfofoaaGreatDoor.OwnVs.up {w w':World} {A:Option Addr} {ts:List Va} (h:OwnVs w A ts) (hb:Below w.heap.size w w'):OwnVs w' A ts:=by
 obtain ⟨S,h1,h2⟩:=h
 exact ⟨S,h1.keep fun b hb' hbl=>hb.block b hbl,fun b hb'=>Nat.lt_of_lt_of_le (h2 b hb') hb.size⟩
theorem _root_.Go.Proofs.YtfnblkcmcfofoaaGreatDoor.OwnVs.here {w:World} {A:Option Addr} {ts:List Va} (h:OwnVs w A ts):VasAt w w.heap.size A ts:=by
 obtain ⟨S,h1,h2⟩:=h
 exact h1.here
theorem _root_.Go.Proofs.YtfnblkcmcfofoaaGreatDoor.OwnV.open {w:World} {v:Value} {t:Va} (h:OwnV w v t):∃ L lc A ac,v=.agg #[.int .i64 t.kind,.int .i64 t.num,.string t.name,.slice L t.labels.length lc,.slice A t.args.length ac]∧t.name.size≤maxLen∧t.labels.length≤maxLen∧(∀ i,(h:i<t.labels.length)→t.labels[i].size≤maxLen)∧StrsAt w w.heap.size L t.labels∧OwnVs w A t.args:=by
 obtain ⟨S,h1,h2⟩:=h
 obtain ⟨L,lc,A,ac,gl,hv,hnm,hn,hz,hl,ha⟩:=h1.open
 refine ⟨L,lc,A,ac,hv,hnm,hn,hz,?_,_,ha,fun b hb=>h2 b hb.1⟩
 rcases hl with h0 | ⟨rfl,_,h4⟩
 ·rw [h0]
  exact StrsAt.empty _ _ _
 ·exact h4.at _ h4.lt
theorem _root_.Go.Proofs.YtfnblkcmcfofoaaGreatDoor.OwnVs.elem {w:World} {A:Option Addr} {ts:List Va} (h:OwnVs w A ts) (i:Nat) (hi:i<ts.length):∃ g L lc A' ac,A=some ⟨g,0,none⟩∧g<w.heap.size∧w.cell? ⟨g,i * 5,none⟩=some (.int .i64 ts[i].kind)∧w.cell? ⟨g,i * 5+1,none⟩=some (.int .i64 ts[i].num)∧w.cell? ⟨g,i * 5+2,none⟩=some (.string ts[i].name)∧w.cell? ⟨g,i * 5+3,none⟩=some (.slice L ts[i].labels.length lc)∧
  w.cell? ⟨g,i * 5+4,none⟩=some (.slice A' ts[i].args.length ac)∧OwnV w (.agg #[.int .i64 ts[i].kind,.int .i64 ts[i].num,.string ts[i].name,.slice L ts[i].labels.length lc,.slice A' ts[i].args.length ac]) ts[i]:=by
 obtain ⟨S,⟨hm,ga,vs,Ss,h1,h2,h3,h4⟩,hS⟩:=h
 rcases h1 with rfl | ⟨rfl,h5,h6⟩
 ·exact absurd hi (by simp)
 ·obtain ⟨L,lc,A',ac,gl,hv,_⟩:=(h4 i hi).open
  have c0:=h6.cell i 0 hi (by omega)
  have c1:=h6.cell i 1 hi (by omega)
  have c2:=h6.cell i 2 hi (by omega)
  have c3:=h6.cell i 3 hi (by omega)
  have c4:=h6.cell i 4 hi (by omega)
  have ht:=h4 i hi
  rw [hv] at c0 c1 c2 c3 c4 ht
  exact ⟨ga,L,lc,A',ac,rfl,h6.lt,c0,c1,c2,c3,c4,_,ht,fun b hb=>hS b (h2 i hi b hb).1⟩
end Go.Proofs.YtfnblkcmcfofoaaGreatDoor.V
end
namespace Go.Proofs.YtfnblkcmcfofoaaGreatDoor
section
set_option maxRecDepth 100000
open Go.RowKit
def leftForm (t:Va) (a:Int):Int:=if (sizeVa t:Int)≤a∧formVa t=true then a - sizeVa t else -1
theorem leftForm_zero (t:Va):leftForm t 0=-1:=by
 have:=sizeVa_eq t
 unfold leftForm
 rw [if_neg (by omega)]
theorem leftForm_no (t:Va) (a:Int) (h:nodeVB t.kind t.num t.name t.labels t.args.length=false):leftForm t a=-1:=by
 unfold leftForm
 rw [if_neg]
 rintro ⟨_,h2⟩
 rw [formVa_eq,h,Bool.and_false] at h2
 cases h2
theorem leftForm_part (t:Va) (a:Int) (k:Nat) (hk:k<t.args.length) (h:leftForm t.args[k] (a - 1 - (sizeVas (t.args.take k):Int))<0):leftForm t a=-1:=by
 have h1:=sizeVas_take t.args k hk
 have h2:=sizeVas_le t.args (k+1)
 have h3:=sizeVa_eq t
 unfold leftForm at *
 rw [if_neg]
 rintro ⟨h4,h5⟩
 rw [formVa_eq,Bool.and_eq_true] at h5
 rw [if_pos ⟨by omega,formVas_at _ h5.1 k hk⟩] at h
 omega
theorem leftForm_next (t:Va) (a:Int) (k:Nat) (hk:k<t.args.length) (h:¬ leftForm t.args[k] (a - 1 - (sizeVas (t.args.take k):Int))<0):leftForm t.args[k] (a - 1 - (sizeVas (t.args.take k):Int))=a - 1 - (sizeVas (t.args.take (k+1)):Int)∧formVa t.args[k]=true:=by
 have h1:=sizeVas_take t.args k hk
 unfold leftForm at *
 split at h
 ·rename_i h2
  rw [if_pos h2]
  exact ⟨by omega,h2.2⟩
 ·omega
theorem leftForm_yes (t:Va) (a:Int) (h0:nodeVB t.kind t.num t.name t.labels t.args.length=true) (h1:0≤a - 1 - (sizeVas t.args:Int)) (h2:∀ i,(h:i<t.args.length)→formVa t.args[i]=true):leftForm t a=a - 1 - (sizeVas t.args:Int):=by
 have h3:=sizeVa_eq t
 unfold leftForm
 rw [if_pos ⟨by omega,by rw [formVa_eq,formVas_all _ h2,h0];rfl⟩]
 omega
def LeftFOne (t:Va):Prop:=∀ (V:Value) (a:Int) (w:World),VaAt w w.heap.size V t→FormsAt w→numsB t=true→szVa t≤1048576→0≤a→a≤1000→Calls Tryz.prog 157 #[V,.int .i64 a] w (IntBelow (leftForm t a) w)
set_option maxHeartbeats 4000000 in
theorem nodesLeft_of (k0 n0:Int) (nm:ByteArray) (ls:List ByteArray) (ts:List Va) (hall:∀ i,(h:i<ts.length)→LeftFOne ts[i]):LeftFOne (.mk k0 n0 nm ls ts):=by
 intro V a w hv hF hnum hsz h0 h1
 have hse:=szVa_eq (.mk k0 n0 nm ls ts)
 obtain ⟨hnum1,hnum2⟩:=numsB_of _ hnum
 have hv0:=hv
 have HFO:=Lib.hid (fun W h hf=>hasValueForm_any (.mk k0 n0 nm ls ts) V W h hf hnum1 hsz)
 have hZ:=Lib.hid (leftForm_zero (.mk k0 n0 nm ls ts))
 have hNo:=Lib.hid (leftForm_no (.mk k0 n0 nm ls ts) a)
 have hPa:=Lib.hid (leftForm_part (.mk k0 n0 nm ls ts) a)
 have hNx:=Lib.hid (leftForm_next (.mk k0 n0 nm ls ts) a)
 have hYe:=Lib.hid (leftForm_yes (.mk k0 n0 nm ls ts) a)
 obtain ⟨L,lc,A,ac,rfl,_,_,_,_,ha⟩:=hv.open
 simp only [Va.kind,Va.num,Va.name,Va.labels,Va.args] at *
 have hm:=ha.1
 unfold maxLen at hm
 have hsz2:szVas ts≤1048576:=by omega
 have HALL:=Lib.hid hall
 have HNUM:=Lib.hid hnum2
 generalize hres:leftForm (.mk k0 n0 nm ls ts) a=res at *
 obtain ⟨hb0,p0,hs0⟩:=boxes1 w 41 #[.int .i64 k0,.int .i64 n0,.string nm,.slice L ls.length lc,.slice A ts.length ac]
 have ha0:=ha.up hb0
 have hF0:=hF.below hb0
 have HV:=Lib.hid (HFO.out _ (hv0.up hb0) hF0)
 have HRS:=Lib.hid hres
 clear hall hv hv0 ha hse hs0 hnum hnum1 hnum2 hF HFO hres
 by_cases hz:a=0
 ·subst hz
  have hr:=Lib.hid (show res=-1 from HRS.out.symm.trans hZ.out)
  go_enter Tryz.func157,Tryz.ntmps157
  go_wp2
  go_ret
  exact ⟨by rw [hr.out];rfl,hb0⟩
 ·have i0:(a == 0)=false:=by rw [beq_eq_false_iff_ne];exact hz
  cases hnode:nodeVB k0 n0 nm ls ts.length
  ·have hr:=Lib.hid (show res=-1 from hNo.out hnode)
   rw [hnode] at HV
   clear hnode hz
   go_enter Tryz.func157,Tryz.ntmps157
   go_wp2_with fail
   generalize w.alloc (.cells #[.int .i64 k0,.int .i64 n0,.string nm,.slice L ls.length lc,.slice A ts.length ac] 41)=w0 at *
   refine HV.out.mono ?_
   rintro e w1 ⟨rfl,hb1⟩
   go_wp2
   go_ret
   exact ⟨by rw [hr.out];rfl,hb0.trans (hb1.mono hb0.size)⟩
  ·rw [hnode] at HV
   have HND:=Lib.hid hnode
   clear hnode
   go_enter Tryz.func157,Tryz.ntmps157
   go_wp2_with fail
   generalize w.alloc (.cells #[.int .i64 k0,.int .i64 n0,.string nm,.slice L ls.length lc,.slice A ts.length ac] 41)=w0 at *
   refine HV.out.mono ?_
   rintro e w1 ⟨rfl,hb1⟩
   have hb1':=hb0.trans (hb1.mono hb0.size)
   have p1:=p0.below hb1 p0.lt
   have ha1:=ha0.up hb1
   have hF1:=hF0.below hb1
   have c4:w1.cell? ⟨w.heap.size,4,none⟩=some (.slice A ts.length ac):=p1.cell 4
   clear HV ha0 hF0 p0 hb0
   go_wp2
   clear c4
   go_loopw [5,20] (fun lf i wr=>∃ (k:Nat) (x:Int),k≤ts.length∧i=.int .i64 k∧lf=.int .i64 x∧Hid (x=a - 1 - (sizeVas (ts.take k):Int))∧0≤x∧x≤1000∧(∀ j,(hj:j<ts.length)→j<k→formVa ts[j]=true)∧Below w1.heap.size w1 wr) (fun _ i _=>ts.length - (intOf i).toNat)
   case atStart=>exact ⟨0,a - 1,Nat.zero_le _,rfl,rfl,Lib.hid (by simp [sizeVas]),by omega,by omega,fun j _ h=>absurd h (by omega),Below.refl _ _⟩
   case round=>
    obtain ⟨k,x,hk,rfl,rfl,hx,hx0,hx1,hall,hb⟩:=hrel
    have HA:=Lib.hid hall
    clear hall
    have hbw:=hb1'.trans (hb.mono hb1'.size)
    by_cases hlt:k<ts.length
    ·obtain ⟨b,off,L1,lc1,A1,ac1,rfl,hbl,q0,q1,q2,q3,q4,ht⟩:=(ha1.below hb).elem k hlt
     have hpt:=szVa_part ts k hlt
     have hbx:=(Below.refl wr.heap.size wr).alloc (Nat.le_refl _) (.cells #[.int .i64 ts[k].kind,.int .i64 ts[k].num,.string ts[k].name,.slice L1 ts[k].labels.length lc1,.slice A1 ts[k].args.length ac1] 41)
     have HT:=HALL.out k hlt _ x _ ((ht.more hb.size).up hbx) ((hF1.below hb).below hbx) (HNUM.out k hlt) (by omega) hx0 hx1
     by_cases hneg:leftForm ts[k] x<0
     ·have hr:=Lib.hid (show res=-1 from hPa.out k hlt (by rw [← hx.out];exact hneg))
      have HT':=Lib.hid HT
      generalize leftForm ts[k] x=y at *
      clear ht HT
      go_wp2_with fail
      refine HT'.out.mono ?_
      rintro e w3 ⟨rfl,hb3⟩
      go_wp2
      go_ret
      exact ⟨by rw [hr.out];rfl,hbw.trans ((hbx.trans (hb3.mono (by simp))).mono hbw.size)⟩
     ·have hnx:=hNx.out k hlt (by rw [← hx.out];omega)
      rw [← hx.out] at hnx
      have HT':=Lib.hid HT
      have HX:=Lib.hid hnx.1
      have HK:=Lib.hid hnx.2
      have hle:leftForm ts[k] x≤x:=by unfold leftForm;split<;>omega
      clear hnx
      generalize leftForm ts[k] x=y at *
      clear ht HT
      go_wp2_with fail
      refine HT'.out.mono ?_
      rintro e w3 ⟨rfl,hb3⟩
      go_wp2
      go_roundw
      case rel=>
       refine ⟨k+1,y,by omega,by go_num,rfl,Lib.hid HX.out,by omega,by omega,fun j hj h=>?_,hb.trans ((hbx.trans (hb3.mono (by simp))).mono hb.size)⟩
       by_cases e:j=k
       ·subst e
        exact HK.out
       ·exact HA.out j hj (by omega)
      case measure=>simp [intOf];omega
    ·have hke:k=ts.length:=by omega
     subst hke
     rw [List.take_length] at hx
     have hr:=Lib.hid (show res=x by rw [hYe.out HND.out (by rw [← hx.out];exact hx0) fun i hi=>HA.out i hi hi,hx.out])
     go_wp2
     go_ret
     exact ⟨by rw [hr.out];rfl,hbw⟩
theorem nodesLeft_any (t:Va):LeftFOne t:=by
 induction t using Va.ind with
 | h k n nm ls ts ih=>exact nodesLeft_of k n nm ls ts ih
set_option maxHeartbeats 1000000 in
theorem implIsValue_any (t:Va) (v:Value) (w:World) (hv:OwnV w v t) (hF:FormsAt w) (hnum:numsB t=true) (hsz:szVa t≤1048576):Calls Tryz.prog 119 #[v] w (BoolIs (valueB t) w):=by
 have HN:=Lib.hid (fun V W h hf=>nodesLeft_any t V 300 W h hf hnum hsz (by omega) (by omega))
 obtain ⟨L,lc,A,ac,rfl,_⟩:=hv.open
 obtain ⟨hb0,p0,hs0⟩:=boxes1 w 41 #[.int .i64 t.kind,.int .i64 t.num,.string t.name,.slice L t.labels.length lc,.slice A t.args.length ac]
 have hv0:=hv.up hb0
 have HF:=Lib.hid (HN.out _ _ hv0.here (hF.below hb0))
 clear hv hv0 hs0 p0
 by_cases h:(sizeVa t:Int)≤300∧formVa t=true
 ·have hl:leftForm t 300=300 - sizeVa t:=by unfold leftForm;rw [if_pos h]
  have i1:(0:Int)≤300 - sizeVa t:=by omega
  have hr:=Lib.hid (show valueB t=true by unfold valueB;rw [h.2];simp;omega)
  rw [hl] at HF
  have i2:(300:Int) - sizeVa t≥0:=by omega
  clear h hl
  generalize (300:Int) - (sizeVa t:Int)=x at *
  go_enter Tryz.func119,Tryz.ntmps119
  go_wp2_with fail
  refine HF.out.mono ?_
  rintro e w1 ⟨rfl,hb1⟩
  go_wp2
  go_ret
  exact ⟨by rw [hr.out];rfl,hb0.trans (hb1.mono hb0.size)⟩
 ·have hl:leftForm t 300=-1:=by unfold leftForm;rw [if_neg h]
  have hr:=Lib.hid (show valueB t=false by
   unfold valueB
   rw [Bool.and_eq_false_iff]
   by_cases h3:formVa t=true
   ·left
    rw [decide_eq_false_iff_not]
    intro h4
    exact h ⟨by omega,h3⟩
   ·right
    simpa using h3)
  rw [hl] at HF
  clear h hl
  go_enter Tryz.func119,Tryz.ntmps119
  go_wp2_with fail
  refine HF.out.mono ?_
  rintro e w1 ⟨rfl,hb1⟩
  go_wp2
  go_ret
  exact ⟨by rw [hr.out];rfl,hb0.trans (hb1.mono hb0.size)⟩
end
end Go.Proofs.YtfnblkcmcfofoaaGreatDoor
