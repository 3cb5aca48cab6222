/- Lemmas: Law, LawLaid, Append, RowS. -/
import Derived.ProofKit
import Derived.OpenShut
import Derived.SizedLaws
import Derived.SliceStrings
import Derived.ShutString
import Derived.ChangeOld
import Derived.Below
import Derived.LaidMore
import Derived.Lay
import Derived.LaidLaws
import Derived.Stop.Joined
import Derived.Lib.LaidTab
import Derived.MakeChecks
import Derived.OpenVars
import Derived.WalkKit
import Derived.Lib.Hide
import Derived.Lib.ItoaNum
import Derived.Laws.BytesArg
import Derived.BigQuiet
import Derived.Deep.QuietTactic
import Derived.Deep.Draws
import Derived.RegionTactic
import Derived.Laws.AppendOwn
import Derived.OwnWalk
import Derived.Lib.AppendStr
import Derived.Deep.RegionLaw
import Derived.Test.YtfnblkcmcfofoaaGreatDoorProg
import Derived.Deep.RegionHeld3
import Derived.Laws.IdiomCopy

namespace Go.Proofs.YtfnblkcmcfofoaaGreatDoor
section
open Go.ChangeShapes Go.WideShapes Go.ChangeAt Go.RowKit
def TrueBelow (w:World) (e:Ending) (w':World):Prop:=e=.returned (.bool true)∧Below w.heap.size w w'
theorem bounds_int {n:Int} (h:(Lit.int .i64 n).wf=true):-(2 ^ 63)≤n∧n≤2 ^ 63 - 1:=by
 have h1:IntKind.i64.min=-9223372036854775808:=rfl
 have h2:IntKind.i64.max=9223372036854775807:=rfl
 simp only [Lit.wf,Bool.and_eq_true,decide_eq_true_eq,h1,h2] at h
 omega
section
variable {H:Type} {enc:TypeId×Value→H} {P:Program}
theorem below_trodAll (hl:laidOutB P=true) {W W':World} (hb:Below W.heap.size W W'):
  ∀ (ts:List TypeId) (vs:List Value) (ds:List (DataW H)) (ps:List MemPlace),(∀ t ∈ ts,P.readableRec t=true∧t<P.types.size)→(∀ x ∈ ps,x.block<W.heap.size)→
   DataW.TrodAll enc P W 0 (fun _=>true) true ts vs ds ps→DataW.TrodAll enc P W' 0 (fun b=>decide (b<W.heap.size)) true ts vs ds ps
 | [],vs,ds,ps,_,_,h=>by
  obtain ⟨rfl,rfl,rfl⟩:=trodAll_nil h
  exact trodAll_mk0
 | t::ts,vs,ds,ps,ht,hp,h=>by
  obtain ⟨v,vs',d,ds',p,q,rfl,rfl,rfl,h0,h1⟩:=trodAll_cons h
  have ht0:=ht t (by simp)
  exact trodAll_cons_mk (Below.trod hl ht0.1 ht0.2 h0 hb (fun x hx=>hp x (by simp [hx]))) (below_trodAll hl hb ts vs' ds' q (fun t' h'=>ht t' (by simp [h'])) (fun x hx=>hp x (by simp [hx])) h1)
end
end
section
open Go.ChangeShapes Go.WideShapes Go.ChangeAt Go.RowKit
section
variable {H:Type} {enc:TypeId×Value→H}
end
section
variable {H:Type} {enc:TypeId×Value→H}
theorem trodVars_len {P:Program} {w:World} {sp:Nat→Bool}:∀ {ns:List String} {gs:List (DataW H)} {ps:List MemPlace},DataW.TrodVars enc P w sp ns gs ps→gs.length=ns.length
 | [],[],_,_=>rfl
 | [],_::_,_,h=>h.elim
 | _::_,[],_,h=>h.elim
 | n::ns,d::ds,ps,h=>by
  obtain ⟨g,t,cs,fuel,p,q,h1,h2,h3,h4,hs,e⟩:=h
  simp [trodVars_len hs]
theorem law_lifted_vars {C:Checked} {os:Os} {f:FuncId} {fn:Func} {s:ChangeSpec} {bt:TypeId} {laid:List (String×DataW Unit)} (own:ownKnob C.prog.godebug=none) (hl:laidOutB C.prog=true) (started:os.Started) (noInit:C.prog.inits.idxOf? f=none)
  (hfn:C.prog.funcs[f]?=some fn) (hv:varsRowed C.prog s.vars=true) (hrt:fn.resultTypes.toList=[bt]) (hbt:C.prog.underlying bt=some .bool)
  (hts0:(fn.params.toList.all fun t=>C.prog.readableRec t&&decide (t<C.prog.types.size))=true)
  (hs:∀ ds gs:List (DataW H),ds.length=fn.params.size→gs.length=s.vars.length→s.fn H (ds++gs)={ results:=[.lit (.bool true)],args:=ds,vars:=gs })
  (witness:∃ (w:World) (tape:Tape) (i:Input),w.os=os∧(w.forCall tape i).Shaped C.prog∧i.vars=[]∧Input.okWide C.prog (w.forCall tape i) .any w.heap.size f i∧
   ((s.pre enc C.prog fn [] false (w.forCall tape i).memory i.args∧laidMetH C.prog laid (w.forCall tape i).memory)∧sizedMet enc C.prog fn (OpenSpec.ofChange s) false (w.forCall tape i).memory i.args)∧
   ({}:Assume).holds C.prog (lone (Frame.enter C.prog f i.args .normal) [] (w.forCall tape i)))
  (walk:∀ (W:World) (base:Nat) (args:Array Value) (ds:List (DataW H)) (p:List MemPlace),
   (∀ (j:Nat) t v,fn.params[j]?=some t→args[j]?=some v→Value.okWide C.prog W .any base t v)→
   DataW.TrodAll enc C.prog W 0 (fun _=>true) true fn.params.toList args.toList ds p→(∀ x ∈ p,x.block<W.heap.size)→
   laidMetH C.prog laid W→W.ShapedOpen C.prog→Calls C.prog f args W (TrueBelow W)):
  ReturnsInHanded {} C os f .any (fun w args=>(s.pre enc C.prog fn [] false w args∧laidMetH C.prog laid w)∧sizedMet enc C.prog fn (OpenSpec.ofChange s) false w args) (s.post enc C.prog fn false true false false):=by
 have hts:∀ t ∈ fn.params.toList,C.prog.readableRec t=true∧t<C.prog.types.size:=fun t ht=>by
  have:=List.all_eq_true.1 hts0 t ht
  rw [Bool.and_eq_true,decide_eq_true_eq] at this
  exact this
 refine returnsInHanded_of_calls own started noInit witness ?_
 intro w tape i _ hsh _ hok hpre hholds
 obtain ⟨_,_,_,fn',hfn',_,_,_,_,hval⟩:=hok
 have e:fn'=fn:=Option.some.inj (hfn'.symm.trans hfn)
 subst e
 obtain ⟨⟨⟨ds,gs,before,hw,_⟩,hx⟩,_⟩:=hpre
 have hW':=DataW.Whole.of_heap (w':=w.forCall tape i) (by rfl) hw
 have hL:laidMetH C.prog laid (w.forCall tape i):=hx.of_heap (by rfl)
 generalize hWW:w.forCall tape i=W at *
 have hWk:=hW'
 obtain ⟨p,q,hA,hV,rfl,_,_⟩:=hWk
 have hlt:∀ x ∈ p,x.block<W.heap.size:=fun x hx=>by simpa using hW'.lt x (by simp [hx])
 have hlen:ds.length=fn'.params.size:=by
  have:∀ (ts:List TypeId) (vs:List Value) (ds:List (DataW H)) (ps:List MemPlace),DataW.TrodAll enc C.prog W 0 (fun _=>true) true ts vs ds ps→ds.length=ts.length:=by
   intro ts
   induction ts with
   | nil=>intro vs ds ps h;obtain ⟨_,rfl,_⟩:=trodAll_nil h;rfl
   | cons t ts ih=>
    intro vs ds ps h
    obtain ⟨v,vs',d,ds',p,q,rfl,rfl,rfl,_,h1⟩:=trodAll_cons h
    simp [ih vs' ds' q h1]
  simpa using this _ _ _ _ hA
 have hgl:=trodVars_len hV
 refine (walk W w.heap.size i.args ds p hval hA hlt hL hsh).mono fun e W' ⟨he,hb⟩=>?_
 subst he
 have hp:s.post enc C.prog fn' false true false false W i.args (.bool true) W':=by
  refine ⟨ds,gs,p++q,[],p,q,hW',?_,?_,?_,hb.frame _,fun h=>by cases h⟩
  ·have:(Value.bool true).resultList fn'.resultTypes.size=[.bool true]:=by
    have:fn'.resultTypes.size=1:=by rw [← Array.length_toList,hrt];rfl
    rw [this];rfl
   rw [this,hrt,hs ds gs hlen hgl]
   exact trodAll_mk1 (shut_bool hbt true)
  ·rw [hs ds gs hlen hgl]
   exact below_trodAll hl hb _ _ _ _ hts hlt hA
  ·rw [hs ds gs hlen hgl]
   exact Below.trodVars hl hb hv hV
 exact ChangeSpec.post_blind hp
end
theorem laidVars_mem {P:Program} {W:World} {n:String} {d:DataW Unit}:∀ {L:List (String×DataW Unit)} {ps:List MemPlace},DataW.LaidVars P W L ps→(n,d) ∈ L→
  ∃ g t cs fuel p,P.globalNamed n=some g∧(P.globals[g]?).map (·.type)=some t∧W.var? P n=some cs∧DataW.trod (fun _=>()) P W 0 (fun _=>true) false fuel t cs.toList=some (d,p)
 | [],_,_,hm=>by simp at hm
 | (n',d')::L,ps,h,hm=>by
  obtain ⟨g,t,cs,fuel,p,q,h1,h2,h3,h4,h5,_⟩:=h
  rcases List.mem_cons.1 hm with e | hm
  ·cases e
   exact ⟨g,t,cs,fuel,p,h1,h2,h3,h4⟩
  ·exact laidVars_mem h5 hm
end
end Go.Proofs.YtfnblkcmcfofoaaGreatDoor
section
namespace Go.Proofs.YtfnblkcmcfofoaaGreatDoor
open Go.RowKit
def nz (u:Nat):List UInt8:=if u=0 then [] else Lib.decDigits u
theorem nz_step (u:Nat) (h:0<u):nz u=nz (u / 10)++[UInt8.ofNat (48+u % 10)]:=by
 unfold nz
 rw [if_neg (by omega),Lib.decDigits]
 by_cases h1:u<10
 ·rw [dif_pos h1,if_pos (by omega),show u % 10=u by omega]
  rfl
 ·rw [dif_neg h1,if_neg (by omega)]
theorem nz_len_of (k:Nat):∀ n,n<10 ^ k→(nz n).length≤k:=by
 induction k with
 | zero=>
  intro n h
  have h0:n=0:=by rw [Nat.pow_zero] at h;omega
  subst h0
  simp [nz]
 | succ k ih=>
  intro n h
  by_cases h0:n=0
  ·subst h0;simp [nz]
  ·have:=ih (n / 10) (by rw [Nat.div_lt_iff_lt_mul (by omega)];rw [Nat.pow_succ] at h;exact h)
   rw [nz_step n (by omega),List.length_append]
   simp
   omega
theorem run_convert_byte {P:Program} {src e dst:TypeId} (hs:P.underlying src=some (.slice e)) (he:P.underlying e=some (.int .u8)) (hd:P.underlying dst=some .string) (W:World) (x:Int):
  (convert src dst (.slice (some ⟨W.heap.size,0,none⟩) 1 1)).run P (W.alloc (.cells #[.int .u8 x] e))=.ok (.string ⟨#[UInt8.ofNat x.toNat]⟩) (W.alloc (.cells #[.int .u8 x] e)):=by
 refine run_convert_bytes_arg _ src e hs he W.heap.size 0 1 1 [x] rfl (fun i hi=>?_) dst hd
 have h0:i=0:=by omega
 subst h0
 rw [World.cell?_alloc_at _ _ _ _ rfl]
 rfl
end Go.Proofs.YtfnblkcmcfofoaaGreatDoor
namespace Go.Proofs.YtfnblkcmcfofoaaGreatDoor
open Go.RowKit
def StrsAt (w:World) (B:Nat) (A:Option Addr) (ss:List ByteArray):Prop:=
 ∀ i,(h:i<ss.length)→∃ b off,A=some ⟨b,off,none⟩∧b<B∧w.cell? ⟨b,off+i,none⟩=some (.string ss[i])
theorem StrsAt.empty (w:World) (B:Nat) (A:Option Addr):StrsAt w B A []:=fun i h=>absurd h (by simp)
theorem StrsAt.keep {w w':World} {B:Nat} {A:Option Addr} {ss:List ByteArray} (h:StrsAt w B A ss) (hk:∀ p:Addr,p.block<B→w'.cell? p=w.cell? p):StrsAt w' B A ss:=fun i hi=>by
 obtain ⟨b,off,h1,h2,h3⟩:=h i hi
 exact ⟨b,off,h1,h2,(hk _ h2).trans h3⟩
theorem StrsAt.below {w w':World} {B:Nat} {A:Option Addr} {ss:List ByteArray} (h:StrsAt w B A ss) (hb:Below B w w'):StrsAt w' B A ss:=h.keep fun _ hp=>hb.cell hp
theorem StrsAt.more {w:World} {B B':Nat} {A:Option Addr} {ss:List ByteArray} (h:StrsAt w B A ss) (hB:B≤B'):StrsAt w B' A ss:=fun i hi=>by
 obtain ⟨b,off,h1,h2,h3⟩:=h i hi
 exact ⟨b,off,h1,by omega,h3⟩
theorem StrsAt.drewN {w:World} {B:Nat} {A:Option Addr} {ss:List ByteArray} (h:StrsAt w B A ss) (k:Nat):StrsAt (w.drewN k) B A ss:=h
def Whole1 (w:World) (g:Nat) (t:TypeId) (cs:Array Value):Prop:=w.heap[g]?=some (.cells cs t (0,0))
theorem Whole1.lt {w:World} {g:Nat} {t:TypeId} {cs:Array Value} (h:Whole1 w g t cs):g<w.heap.size:=by
 unfold Whole1 at h
 by_cases hlt:g<w.heap.size
 ·exact hlt
 ·rw [Array.getElem?_eq_none (by omega)] at h;cases h
theorem Whole1.cell {w:World} {g:Nat} {t:TypeId} {cs:Array Value} (h:Whole1 w g t cs) (i:Nat):w.cell? ⟨g,i,none⟩=cs[i]?:=cell_of_row w g i cs t (0,0) h
theorem Whole1.free {w:World} {g:Nat} {t:TypeId} {cs:Array Value} (h:Whole1 w g t cs) (i:Nat):w.frozen? ⟨g,i,none⟩=false:=frozen_of_row w g i cs t h
theorem dC {w:World} {p:Addr} {v:Value} (h:w.cell? p=some v):w.drew.cell? p=some v:=h
theorem dF {w:World} {p:Addr} (h:w.frozen? p=false):w.drew.frozen? p=false:=h
theorem kC {n:Nat} {w x:World} {p:Addr} {v:Value} (h:Below n w x) (c:w.cell? p=some v) (hp:p.block<n):x.cell? p=some v:=(h.cell hp).trans c
theorem kH {w x:World} {p:Addr} {v:Value} (c:w.cell? p=some v) (h:x.heap[p.block]?=w.heap[p.block]?):x.cell? p=some v:=(World.cell?_of_block (w:=w) h).trans c
theorem Whole1.c3 {w:World} {g:Nat} {t:TypeId} {a b c:Value} (h:Whole1 w g t #[a,b,c]):w.cell? ⟨g,0,none⟩=some a∧w.cell? ⟨g,1,none⟩=some b∧w.cell? ⟨g,2,none⟩=some c:=⟨h.cell 0,h.cell 1,h.cell 2⟩
theorem Whole1.f3 {w:World} {g:Nat} {t:TypeId} {cs:Array Value} (h:Whole1 w g t cs):w.frozen? ⟨g,0,none⟩=false∧w.frozen? ⟨g,1,none⟩=false∧w.frozen? ⟨g,2,none⟩=false:=⟨h.free 0,h.free 1,h.free 2⟩
theorem Whole1.c4 {w:World} {g:Nat} {t:TypeId} {a b c d:Value} (h:Whole1 w g t #[a,b,c,d]):w.cell? ⟨g,0,none⟩=some a∧w.cell? ⟨g,1,none⟩=some b∧w.cell? ⟨g,2,none⟩=some c∧w.cell? ⟨g,3,none⟩=some d:=⟨h.cell 0,h.cell 1,h.cell 2,h.cell 3⟩
theorem Whole1.f4 {w:World} {g:Nat} {t:TypeId} {cs:Array Value} (h:Whole1 w g t cs):w.frozen? ⟨g,0,none⟩=false∧w.frozen? ⟨g,1,none⟩=false∧w.frozen? ⟨g,2,none⟩=false∧w.frozen? ⟨g,3,none⟩=false:=⟨h.free 0,h.free 1,h.free 2,h.free 3⟩
theorem Whole1.c5 {w:World} {g:Nat} {t:TypeId} {a b c d e:Value} (h:Whole1 w g t #[a,b,c,d,e]):w.cell? ⟨g,0,none⟩=some a∧w.cell? ⟨g,1,none⟩=some b∧w.cell? ⟨g,2,none⟩=some c∧w.cell? ⟨g,3,none⟩=some d∧w.cell? ⟨g,4,none⟩=some e:=⟨h.cell 0,h.cell 1,h.cell 2,h.cell 3,h.cell 4⟩
theorem Whole1.f5 {w:World} {g:Nat} {t:TypeId} {cs:Array Value} (h:Whole1 w g t cs):w.frozen? ⟨g,0,none⟩=false∧w.frozen? ⟨g,1,none⟩=false∧w.frozen? ⟨g,2,none⟩=false∧w.frozen? ⟨g,3,none⟩=false∧w.frozen? ⟨g,4,none⟩=false:=⟨h.free 0,h.free 1,h.free 2,h.free 3,h.free 4⟩
theorem Whole1.set {w:World} {g:Nat} {t:TypeId} {cs:Array Value} (h:Whole1 w g t cs) (i:Nat) (u:Value):Whole1 (w.setCell ⟨g,i,none⟩ u) g t (cs.setIfInBounds i u):=by
 unfold Whole1 at h ⊢
 simp [World.setCell,Array.getElem?_modify,h]
theorem Whole1.below {w w':World} {g B:Nat} {t:TypeId} {cs:Array Value} (h:Whole1 w g t cs) (hb:Below B w w') (hg:g<B):Whole1 w' g t cs:=(hb.block g hg).trans h
theorem Whole1.drewN {w:World} {g:Nat} {t:TypeId} {cs:Array Value} (h:Whole1 w g t cs) (k:Nat):Whole1 (w.drewN k) g t cs:=h
theorem Whole1.new (w:World) (t:TypeId) (cs:Array Value):Whole1 (w.alloc (.cells cs t)) w.heap.size t cs:=heap_alloc_new w _
theorem only_below {a w w':World} {row:Option Nat} (h:a.grownBy w row) (hb:Below w.heap.size w w'):a.grownBy w' row:=
 ⟨hb.os.trans h.os,hb.tape.trans h.tape,hb.output.trans h.output,Nat.le_trans h.size hb.size,fun i hi hne=>(hb.block i (Nat.lt_of_lt_of_le hi h.size)).trans (h.block i hi hne)⟩
theorem only_set {a w:World} {g:Nat} (h:a.grownBy w (some g)) (i:Nat) (v:Value):a.grownBy (w.setCell ⟨g,i,none⟩ v) (some g):=
 ⟨h.os,h.tape,h.output,by simpa [World.setCell] using h.size,fun k hk hne=>(Below.heap_setCell w ⟨g,i,none⟩ v k (fun e=>hne (by rw [e]))).trans (h.block k hk hne)⟩
theorem only_refl (w:World) (row:Option Nat):w.grownBy w row:=⟨rfl,rfl,rfl,Nat.le_refl _,fun _ _ _=>rfl⟩
theorem only_drewN {a w:World} {row:Option Nat} (h:a.grownBy w row) (n:Nat):a.grownBy (w.drewN n) row:=⟨h.os,h.tape,h.output,h.size,h.block⟩
def strVals (ss:List ByteArray):List Value:=ss.map Value.string
theorem StrsAt.of_whole {w:World} {g:Nat} {t:TypeId} {ss:List ByteArray} (h:Whole1 w g t (strVals ss).toArray) (B:Nat) (hB:g<B):StrsAt w B (some ⟨g,0,none⟩) ss:=fun i hi=>by
 refine ⟨g,0,rfl,hB,?_⟩
 rw [Nat.zero_add,h.cell]
 simp [strVals,hi]
def sumSizes (ss:List ByteArray):Nat:=(ss.map (·.size)).sum
theorem sumSizes_take_succ (ss:List ByteArray) (k:Nat) (h:k<ss.length):sumSizes (ss.take (k+1))=sumSizes (ss.take k)+ss[k].size:=by
 unfold sumSizes
 rw [List.take_succ_eq_append_getElem h,List.map_append,List.sum_append]
 simp
theorem sumSizes_take_le (ss:List ByteArray) (k:Nat):sumSizes (ss.take k)≤sumSizes ss:=by
 unfold sumSizes
 conv=>rhs;rw [← List.take_append_drop k ss]
 rw [List.map_append,List.sum_append]
 omega
theorem size_le_sumSizes (ss:List ByteArray) (k:Nat) (h:k<ss.length):ss[k].size≤sumSizes ss:=by
 have h1:=sumSizes_take_succ ss k h
 have h2:=sumSizes_take_le ss (k+1)
 omega
theorem run_make_strs {P:Program} {T E:TypeId} (ht:P.underlying T=some (.slice E)) (hi:(P.info? E).map (fun i=>(i.zero,i.size,i.bytes))=some (some (.string ⟨#[]⟩),1,16)) (n:Nat) (hn:n≤1048576) (w:World):
  (Instr.makeSlice T (.int .i64 (n:Int)) (.int .i64 (n:Int))).run P w=.ok (.slice (some ⟨w.heap.size,0,none⟩) n n) (w.alloc (.cells (strVals (List.replicate n ⟨#[]⟩)).toArray E)):=by
 obtain ⟨i,h1,h2,h3,h4⟩:=info_parts hi
 have hr:=run_make (P:=P) w T E i _ ht h1 h2 .i64 .i64 n n (by omega) (by omega) (by rw [h4];omega) (by omega)
 simp only [Int.toNat_natCast] at hr
 rw [hr]
 have e:madeCells (Value.string ⟨#[]⟩).cells (n * i.size)=(strVals (List.replicate n ⟨#[]⟩)).toArray:=by
  rw [h3,Nat.mul_one]
  apply Array.ext'
  simp [Value.cells,toList_madeCells_one,strVals]
 rw [e]
def filled (ss:List ByteArray) (k:Nat):Array Value:=((List.range ss.length).map fun i=>Value.string (if i<k then ss.getD i ⟨#[]⟩ else ⟨#[]⟩)).toArray
theorem filled_get (ss:List ByteArray) (k j:Nat):(filled ss k)[j]?=if j<ss.length then some (Value.string (if j<k then ss.getD j ⟨#[]⟩ else ⟨#[]⟩)) else none:=by
 by_cases h:j<ss.length
 ·simp [filled,h]
 ·simp [filled,h]
theorem filled_zero (ss:List ByteArray):filled ss 0=(strVals (List.replicate ss.length ⟨#[]⟩)).toArray:=by
 apply Array.ext_getElem?
 intro j
 rw [filled_get]
 by_cases h:j<ss.length<;>simp [strVals,h]
theorem filled_all (ss:List ByteArray):filled ss ss.length=(strVals ss).toArray:=by
 apply Array.ext_getElem?
 intro j
 rw [filled_get]
 by_cases h:j<ss.length<;>simp [strVals,h]
theorem filled_succ (ss:List ByteArray) (k:Nat) (h:k<ss.length):(filled ss k).setIfInBounds k (.string ss[k])=filled ss (k+1):=by
 apply Array.ext_getElem?
 intro j
 have hsz:(filled ss k).size=ss.length:=by simp [filled]
 rw [filled_get,Array.getElem?_setIfInBounds,filled_get,hsz]
 by_cases h1:k=j
 ·subst h1
  simp [h]
 ·by_cases h2:j<k
  ·simp [h1,h2,show j<k+1 by omega]
  ·simp [h1,h2,show ¬ j<k+1 by omega]
theorem filled_at (ss:List ByteArray) (k i:Nat) (h:i<ss.length):∃ s,(filled ss k)[i]?=some (Value.string s):=⟨_,by rw [filled_get,if_pos h]⟩
end Go.Proofs.YtfnblkcmcfofoaaGreatDoor
namespace Go.Proofs.YtfnblkcmcfofoaaGreatDoor
open Go.RowKit
def CellsAt (w:World) (A:Option Addr) (xs:List Value):Prop:=xs=[]∨∃ ad,A=some ad∧∀ j u,xs[j]?=some u→w.cell? (ad.add j)=some u
theorem StrsAt.cells {w:World} {B:Nat} {A:Option Addr} {ss:List ByteArray} (h:StrsAt w B A ss):CellsAt w A (strVals ss):=by
 by_cases h0:ss=[]
 ·exact .inl (by simp [strVals,h0])
 ·have hp:0<ss.length:=List.length_pos_iff.2 h0
  obtain ⟨b,off,rfl,_,_⟩:=h 0 hp
  refine .inr ⟨_,rfl,fun j u hu=>?_⟩
  have hj:j<ss.length:=by
   have:=(List.getElem?_eq_some_iff.1 hu).1
   simpa [strVals] using this
  obtain ⟨b',off',e,_,hc⟩:=h j hj
  cases e
  rw [WideShapes.add_plain,hc]
  simpa [strVals,hj] using hu
theorem strVals_one (ss:List ByteArray):∀ u ∈ strVals ss,u.oneCell'=true:=by
 intro u hu
 obtain ⟨s,_,rfl⟩:=List.mem_map.1 hu
 rfl
theorem cellNew (w:World) (t:TypeId) (x:Value) (j:Nat) (u:Value) (hj:[x][j]?=some u):(w.alloc (.cells #[x] t)).cell? ((⟨w.heap.size,0,none⟩:Addr).add j)=some u:=by
 have h0:j=0:=by
  have:=(List.getElem?_eq_some_iff.1 hj).1
  simp at this
  exact this
 subst h0
 rw [WideShapes.add_plain,World.cell?_alloc_at _ _ _ _ rfl]
 simpa using hj
theorem own_strs {w:World} {base n:Nat} {e:TypeId} {v:Value} {xs:List Value} {ss:List ByteArray} (h:w.ownsRow base e 1 v n xs) (hx:strVals ss=xs):w.ownsRow base e 1 v ss.length (strVals ss):=by
 have hl:xs.length=n:=by simpa using h.1
 have:ss.length=n:=by rw [← hl,← hx];simp [strVals]
 rw [this,hx]
 exact h
section
variable {P:Program} (w:World)
theorem append_nothing (base:Nat) (t ty e:TypeId) (i:TypeInfo) (size:Nat) (ht:P.underlying t=some (.slice e)) (hi:P.info? e=some i)
  (v:Value) (n:Nat) (xs:List Value) (hown:w.ownsRow base e size v n xs) (c:Nat):(Builtin.append_ #[t,t] ty #[v,.slice none 0 c]).run P w=.ok v w:=by
 rcases hown.2 with ⟨hv,hn⟩ | ⟨g,cap,cur,hv,_,_,hfit,_⟩
 ·rw [hv]
  simp [Builtin.append_,Builtin.firstCells,Builtin.lenOf,typeInfo,sizeOf,run_underlying ht,hi]
 ·rw [hv]
  simp [Builtin.append_,Builtin.firstCells,Builtin.lenOf,storeCells,typeInfo,sizeOf,run_underlying ht,hi,hfit]
theorem append_cells (base:Nat) (t ty e:TypeId) (i:TypeInfo) (z:Value) (size bytes:Nat) (ht:P.underlying t=some (.slice e)) (hi:P.info? e=some i) (hz:i.zero=some z)
  (hsize:i.size=size) (hby:i.bytes=bytes) (hzs:z.cells.size=size) (hsz:0<size)
  (v:Value) (n:Nat) (xs:List Value) (hown:w.ownsRow base e size v n xs)
  (A:Option Addr) (m c:Nat) (news:List Value) (hl:news.length=m * size) (hnews:CellsAt w A news) (h1:∀ u ∈ news,u.oneCell'=true)
  (h63:n+m≤maxLen) (hbytes:(n+m) * bytes≤140737488355328) (hbase:base≤w.heap.size):
  ∃ v' w',(Builtin.append_ #[t,t] ty #[v,.slice A m c]).run P w=.ok v' w'∧w'.ownsRow base e size v' (n+m) (xs++news)∧w.grownBy w' v.ownBlock:=by
 cases A with
 | none=>
  have hn:news=[]:=by
   rcases hnews with h | ⟨ad,h,_⟩
   ·exact h
   ·cases h
  subst hn
  have hm:m=0:=by
   rcases Nat.eq_zero_or_pos m with h | h
   ·exact h
   ·have:=Nat.mul_pos h hsz
    simp at hl
    omega
  subst hm
  exact ⟨v,w,append_nothing w base t ty e i size ht hi v n xs hown c,by simpa using hown,only_refl w _⟩
 | some ad=>
  have hc:∀ j u,news[j]?=some u→w.cell? (ad.add j)=some u:=by
   rcases hnews with h | ⟨ad',h,h2⟩
   ·subst h
    intro j u hu
    simp at hu
   ·cases h
    exact h2
  obtain ⟨v',w',h2,h3,h4,_⟩:=run_append_own (P:=P) w base t ty e i z size bytes ht hi hz hsize hby hzs hsz v n xs hown ad m c news hl hc h1 h63 hbytes hbase
  exact ⟨v',w',h2,h3,h4⟩
theorem wpList_append_cells {ops:Array Oper} {rest:List Oper} {o:Oper} {a:Act} {Q:Exit→Act→World→Prop} (hgd:o.guard=none) (s x:Operand) (t:TypeId)
  (ho:o.op=.call { callee:=.builtin .append,args:=#[s,x],argTypes:=#[t,t] })
  (base:Nat) (e:TypeId) (i:TypeInfo) (z:Value) (size bytes:Nat) (ht:P.underlying t=some (.slice e)) (hi:P.info? e=some i) (hz:i.zero=some z)
  (hsize:i.size=size) (hby:i.bytes=bytes) (hzs:z.cells.size=size) (hsz:0<size)
  (v:Value) (n:Nat) (xs:List Value) (hs:a.eval s=v) (hown:w.ownsRow base e size v n xs)
  (A:Option Addr) (m c:Nat) (news:List Value) (hx:a.eval x=.slice A m c) (hl:news.length=m * size) (hnews:CellsAt w A news) (h1:∀ u ∈ news,u.oneCell'=true)
  (h63:n+m≤maxLen) (hbytes:(n+m) * bytes≤140737488355328) (hbase:base≤w.heap.size)
  (h:∀ v' w',w'.ownsRow base e size v' (n+m) (xs++news)→w.grownBy w' v.ownBlock→wpList P ops Q rest (a.put o.dst v') w'):wpList P ops Q (o::rest) a w:=by
 refine wpList_plain hgd fun K hK=>?_
 obtain ⟨v',w',hr,h2,h3⟩:=append_cells (P:=P) w base t o.type e i z size bytes ht hi hz hsize hby hzs hsz v n xs hown A m c news hl hnews h1 h63 hbytes hbase
 unfold Oper.wp execOp
 simp only [ho,resolve,invoke,builtin,Sem.run_bind,Sem.run_pure,Result.andThen_ok,List.map_toArray,List.map_cons,List.map_nil,hs,hx,hr]
 exact hK _ _ (h v' w' h2 h3)
theorem step_append_cells {ops:Array Oper} {o:Oper} {a:Act} {K:Act→World→Prop} {Q:Exit→Act→World→Prop} {E:Prop} (hgd:o.guard=none) (s x:Operand) (t:TypeId)
  (ho:o.op=.call { callee:=.builtin .append,args:=#[s,x],argTypes:=#[t,t] })
  (base:Nat) (e:TypeId) (i:TypeInfo) (z:Value) (size bytes:Nat) (ht:P.underlying t=some (.slice e)) (hi:P.info? e=some i) (hz:i.zero=some z)
  (hsize:i.size=size) (hby:i.bytes=bytes) (hzs:z.cells.size=size) (hsz:0<size)
  (v:Value) (n:Nat) (xs:List Value) (hs:a.eval s=v) (hown:w.ownsRow base e size v n xs)
  (A:Option Addr) (m c:Nat) (news:List Value) (hx:a.eval x=.slice A m c) (hl:news.length=m * size) (hnews:CellsAt w A news) (h1:∀ u ∈ news,u.oneCell'=true)
  (h63:n+m≤maxLen) (hbytes:(n+m) * bytes≤140737488355328) (hbase:base≤w.heap.size)
  (h:∀ v' w',w'.ownsRow base e size v' (n+m) (xs++news)→w.grownBy w' v.ownBlock→K (a.put o.dst v') w'):if Region.wanted o (yielded ops a.tmps)=true then Oper.wp P o a w K Q else E:=by
 have hw:Region.wanted o (yielded ops a.tmps)=true:=by simp [Region.wanted,hgd]
 rw [if_pos hw]
 obtain ⟨v',w',hr,h2,h3⟩:=append_cells (P:=P) w base t o.type e i z size bytes ht hi hz hsize hby hzs hsz v n xs hown A m c news hl hnews h1 h63 hbytes hbase
 unfold Oper.wp execOp
 simp only [ho,resolve,invoke,builtin,Sem.run_bind,Sem.run_pure,Result.andThen_ok,List.map_toArray,List.map_cons,List.map_nil,hs,hx,hr]
 exact h v' w' h2 h3
end
end Go.Proofs.YtfnblkcmcfofoaaGreatDoor
end
section
namespace Go.Proofs.YtfnblkcmcfofoaaGreatDoor
open Go.RowKit
def markB (k:Nat):ByteArray:=⟨(109::nz k).toArray⟩
set_option maxHeartbeats 400000 in
set_option maxRecDepth 100000 in
theorem markText_any (n:Nat) (w:World) (h0:0<n) (h1:n≤2 ^ 62):
  Calls Tryz.prog 89 #[.int .i64 n] w fun e w'=>e=.returned (.string (markB n))∧Below w.heap.size w w':=by
 have hnl:¬ (n:Int)≤0:=by omega
 have hcv:=run_convert_byte (P:=Tryz.prog) Tryz.underlying22 Tryz.underlying5 Tryz.underlying9
 have hlen0:=nz_len_of 20 n (by omega)
 go_enter Tryz.func89,Tryz.ntmps89
 go_wp2
 go_loopw [0,3] (fun m s wr=>∃ (u:Nat) (out:List UInt8),m=.int .i64 (u:Int)∧u≤n∧s=.string ⟨out.toArray⟩∧nz n=nz u++out∧Below w.heap.size w wr) (fun m _ _=>(intOf m).toNat)
 case atStart=>exact ⟨n,[],rfl,Nat.le_refl _,rfl,by simp,Below.refl _ _⟩
 case round=>
  obtain ⟨u,out,rfl,hu,rfl,hout,hb⟩:=hrel
  have hO:=Lib.hid hout
  clear hout
  have hlen:out.length≤20:=by
   have:=hO.out
   rw [this,List.length_append] at hlen0
   omega
  clear hlen0
  by_cases hz:u=0
  ·subst hz
   go_wp2
   go_ret
   have hE:nz n=out:=by
    have:=hO.out
    rw [show nz 0=[] from rfl,List.nil_append] at this
    exact this
   refine ⟨?_,hb⟩
   rw [markB,hE]
   rfl
  ·have hb1:u≤2 ^ 62:=by omega
   go_wp2
   go_roundw
   case rel=>exact ⟨u / 10,_,by go_num,by omega,rfl,by rw [hO.out,nz_step u (by omega)];simp,hb.alloc hb.size _⟩
   case measure=>simp [intOf];omega
theorem markB_size (n:Nat) (h:n≤2 ^ 62):(markB n).size≤21:=by
 have:=nz_len_of 20 n (by omega)
 show (109::nz n).toArray.size≤21
 simp
 omega
def marked (ss:List ByteArray) (k j:Nat):List ByteArray:=(List.range ss.length).map fun i=>if i<j then markB (k+i) else ss.getD i ⟨#[]⟩
theorem marked_len (ss:List ByteArray) (k j:Nat):(marked ss k j).length=ss.length:=by simp [marked]
theorem marked_zero (ss:List ByteArray) (k:Nat):marked ss k 0=ss:=by
 apply List.ext_getElem?
 intro i
 by_cases h:i<ss.length<;>simp [marked,h]
theorem marked_get (ss:List ByteArray) (k j i:Nat) (h:i<ss.length):(marked ss k j)[i]?=some (if i<j then markB (k+i) else ss.getD i ⟨#[]⟩):=by simp [marked,h]
def marks (k n:Nat):List ByteArray:=(List.range n).map fun i=>markB (k+i)
theorem marked_all (ss:List ByteArray) (k:Nat):marked ss k ss.length=marks k ss.length:=by
 apply List.map_congr_left
 intro i hi
 rw [if_pos (List.mem_range.1 hi)]
theorem marks_len (k n:Nat):(marks k n).length=n:=by simp [marks]
def HeldTo (w:World) (n:Nat) (e:Ending) (w':World):Prop:=e=.returned (.int .i64 (n:Int))∧Below w.heap.size w w'
end Go.Proofs.YtfnblkcmcfofoaaGreatDoor
namespace Go.Proofs.YtfnblkcmcfofoaaGreatDoor
open Go.RowKit
def RowStrs (w:World) (g:Nat) (ss:List ByteArray):Prop:=∃ cs:Array Value,Whole1 w g 9 cs∧∀ i,(h:i<ss.length)→cs[i]?=some (.string ss[i])
theorem RowStrs.lt {w:World} {g:Nat} {ss:List ByteArray} (h:RowStrs w g ss):g<w.heap.size:=by
 obtain ⟨cs,h1,_⟩:=h
 exact h1.lt
theorem RowStrs.cell {w:World} {g:Nat} {ss:List ByteArray} (h:RowStrs w g ss) (i:Nat) (hi:i<ss.length):w.cell? ⟨g,i,none⟩=some (.string ss[i]):=by
 obtain ⟨cs,h1,h2⟩:=h
 rw [h1.cell,h2 i hi]
theorem RowStrs.free {w:World} {g:Nat} {ss:List ByteArray} (h:RowStrs w g ss) (i:Nat):w.frozen? ⟨g,i,none⟩=false:=by
 obtain ⟨cs,h1,h2⟩:=h
 exact h1.free i
theorem RowStrs.at {w:World} {g:Nat} {ss:List ByteArray} (h:RowStrs w g ss) (B:Nat) (hB:g<B):StrsAt w B (some ⟨g,0,none⟩) ss:=fun i hi=>⟨g,0,rfl,hB,by rw [Nat.zero_add];exact h.cell i hi⟩
theorem RowStrs.below {w w':World} {g B:Nat} {ss:List ByteArray} (h:RowStrs w g ss) (hb:Below B w w') (hg:g<B):RowStrs w' g ss:=by
 obtain ⟨cs,h1,h2⟩:=h
 exact ⟨cs,h1.below hb hg,h2⟩
theorem RowStrs.drewN {w:World} {g:Nat} {ss:List ByteArray} (h:RowStrs w g ss) (k:Nat):RowStrs (w.drewN k) g ss:=h
theorem RowStrs.keep {w w':World} {g x:Nat} {ss:List ByteArray} (h:RowStrs w g ss) (ho:w.grownBy w' (some x)) (hx:g≠x):RowStrs w' g ss:=by
 have hl:=h.lt
 obtain ⟨cs,h1,h2⟩:=h
 exact ⟨cs,(ho.block g hl (fun e=>hx (Option.some.inj e))).trans h1,h2⟩
theorem RowStrs.of_whole {w:World} {g:Nat} {ss:List ByteArray} (h:Whole1 w g 9 (strVals ss).toArray):RowStrs w g ss:=⟨_,h,fun i hi=>by simp [strVals,hi]⟩
theorem RowStrs.set {w:World} {g:Nat} {ss:List ByteArray} (h:RowStrs w g ss) (j:Nat) (hj:j<ss.length) (s:ByteArray):RowStrs (w.setCell ⟨g,j,none⟩ (.string s)) g (ss.set j s):=by
 obtain ⟨cs,h1,h2⟩:=h
 refine ⟨_,h1.set j _,fun i hi=>?_⟩
 have hi':i<ss.length:=by simpa using hi
 have hjs:j<cs.size:=(Array.getElem?_eq_some_iff.1 (h2 j hj)).1
 rw [Array.getElem?_setIfInBounds]
 by_cases e:j=i
 ·subst e
  simp [hjs]
 ·rw [if_neg e,h2 i hi',List.getElem_set_ne e]
theorem RowStrs.of_own {w:World} {base n:Nat} {v:Value} {ss:List ByteArray} (h:w.ownsRow base 9 1 v n (strVals ss)):(v=.slice none 0 0∧ss=[])∨∃ g cap,v=.slice (some ⟨g,0,none⟩) ss.length cap∧base≤g∧RowStrs w g ss:=by
 have hl:ss.length=n:=by simpa [strVals] using h.1
 rcases h.2 with ⟨h1,h2⟩ | ⟨g,cap,cur,h1,h2,h3,h4,h5,h6,h7⟩
 ·exact .inl ⟨h1,List.length_eq_zero_iff.1 (by omega)⟩
 ·refine .inr ⟨g,cap,by rw [h1,hl],h2,cur,h3,fun i hi=>?_⟩
  have:(cur.toList.take (n * 1))[i]?=some (.string ss[i]):=by rw [h7];simp [strVals,hi]
  rw [List.getElem?_take] at this
  split at this
  ·simpa using this
  ·cases this
theorem StrsAt.of_own {w:World} {base n:Nat} {v:Value} {ss:List ByteArray} (h:w.ownsRow base 9 1 v n (strVals ss)):∃ A c,v=.slice A ss.length c∧StrsAt w w.heap.size A ss:=by
 rcases RowStrs.of_own h with ⟨rfl,rfl⟩ | ⟨g,cap,rfl,_,h2⟩
 ·exact ⟨none,0,rfl,StrsAt.empty _ _ _⟩
 ·exact ⟨_,_,rfl,h2.at _ h2.lt⟩
theorem marked_set (ss:List ByteArray) (k j:Nat) (h:j<ss.length):(marked ss k j).set j (markB (k+j))=marked ss k (j+1):=by
 apply List.ext_getElem?
 intro i
 rw [List.getElem?_set]
 by_cases hi:i<ss.length
 ·rw [marked_get ss k j i hi,marked_get ss k (j+1) i hi,marked_len]
  by_cases e:j=i
  ·subst e
   simp [h]
  ·by_cases h2:i<j
   ·simp [e,h2,show i<j+1 by omega]
   ·simp [e,h2,show ¬ i<j+1 by omega]
 ·rw [if_neg (by omega),List.getElem?_eq_none (by rw [marked_len];omega),List.getElem?_eq_none (by rw [marked_len];omega)]
def MarkedRow (w:World) (g k n:Nat) (e:Ending) (w':World):Prop:=
 e=.returned (.int .i64 ((k+n:Nat):Int))∧RowStrs w' g (marks k n)∧w.grownBy w' (some g)
set_option maxHeartbeats 400000 in
theorem markStringS_row (g c k:Nat) (ss:List ByteArray) (w:World) (hg:RowStrs w g ss) (h0:0<k) (h1:k+ss.length≤2 ^ 62):
  Calls Tryz.prog 86 #[.slice (some ⟨g,0,none⟩) ss.length c,.int .i64 k] w (MarkedRow w g k ss.length):=by
 go_enter Tryz.func86,Tryz.ntmps86
 go_wp2
 go_loopw [1,5] (fun m i wr=>∃ j:Nat,j≤ss.length∧i=.int .i64 j∧m=.int .i64 ((k+j:Nat):Int)∧RowStrs wr g (marked ss k j)∧w.grownBy wr (some g)) (fun _ i _=>ss.length - (intOf i).toNat)
 case atStart=>exact ⟨0,Nat.zero_le _,rfl,rfl,by rw [marked_zero];exact hg,only_refl _ _⟩
 case round=>
  obtain ⟨j,hj,rfl,rfl,hw,ho⟩:=hrel
  clear hg
  by_cases hlt:j<ss.length
  ·have hm:=Lib.hid (markText_any (k+j) wr (by omega) (by omega))
   have hW:=Lib.hid hw
   have hml:=Lib.hid (marked_len ss k j)
   clear hw
   go_wp2_with fail
   refine hm.out.mono ?_
   rintro e w1 ⟨rfl,hb1⟩
   have hw1:=hW.out.below hb1 hW.out.lt
   have ho1:=only_below ho hb1
   have hc1:=hw1.cell j (by rw [hml.out];exact hlt)
   have hf1:w1.frozen? ⟨g,j,none⟩=false:=hw1.free j
   have hset:=Lib.hid (hw1.set j (by rw [hml.out];exact hlt) (markB (k+j)))
   have hos:=Lib.hid (only_set ho1 j (.string (markB (k+j))))
   clear hw1 ho1 ho hW
   go_wp2
   go_roundw
   case rel=>exact ⟨j+1,by omega,by go_num,by go_num,by rw [← marked_set ss k j hlt];exact hset.out,hos.out⟩
   case measure=>simp [intOf];omega
  ·have hje:j=ss.length:=by omega
   subst hje
   rw [marked_all] at hw
   go_wp2
   go_ret
   exact ⟨rfl,hw,ho⟩
end Go.Proofs.YtfnblkcmcfofoaaGreatDoor
end
