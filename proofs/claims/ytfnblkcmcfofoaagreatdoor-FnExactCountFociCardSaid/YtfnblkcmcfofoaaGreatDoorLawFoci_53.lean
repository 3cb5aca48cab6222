/- Lemmas: JoinsLaid, UnfitLaid, FormsLaid. -/
import Derived.Test.YtfnblkcmcfofoaaGreatDoorRows
import Derived.Test.YtfnblkcmcfofoaaGreatDoorLawFoci_1
import Derived.Test.YtfnblkcmcfofoaaGreatDoorLawFoci_31
import Derived.Test.YtfnblkcmcfofoaaGreatDoorLawFoci_30
import Derived.Stop.LaidErr
import Derived.Test.YtfnblkcmcfofoaaGreatDoorLawFoci_44

namespace Go.Proofs.YtfnblkcmcfofoaaGreatDoor
section
set_option maxRecDepth 100000
open Go.ChangeShapes Go.WideShapes Go.ChangeAt Go.RowKit
theorem cellsJoinRow:Tryz.prog.cellsOf 237=6:=by kernel_rfl
theorem cellsJoins:Tryz.prog.cellsOf 241=36:=by kernel_rfl
theorem cellsIntJ:Tryz.prog.cellsOf 3=1:=by kernel_rfl
theorem joinRow_cells {W:World} {cs:List Value} {fuel:Nat} {a b c d e f:Int} {p:List MemPlace} (h:DataW.trod (fun _=>()) Tryz.prog W 0 (fun _=>true) false fuel 237 cs=some (.agg [.lit (.int .i64 a),.lit (.int .i64 b),.lit (.int .i64 c),.lit (.int .i64 d),.lit (.int .i64 e),.lit (.int .i64 f)],p)):
  cs=[.int .i64 a,.int .i64 b,.int .i64 c,.int .i64 d,.int .i64 e,.int .i64 f]:=by
 obtain ⟨xs,n,rfl,ex,hlen,hxl,hel⟩:=DataW.trod_array Tryz.underlying237 h
 rw [cellsJoinRow] at hlen
 rw [cellsIntJ] at hel
 have e3:=(DataW.agg.inj (Prod.mk.inj ex).1)
 match cs,hlen with
 | [c0,c1,c2,c3,c4,c5],_=>
 match xs,hxl with
 | [x0,x1,x2,x3,x4,x5],_=>
 simp only [List.map_cons,List.map_nil,List.cons.injEq,and_true] at e3
 obtain ⟨e0,e1,e2,e3,e4,e5⟩:=e3
 have h0:DataW.trod (fun _=>()) Tryz.prog W 0 (fun _=>true) false n 3 [c0]=some x0:=hel 0 (by omega)
 obtain ⟨n0,k0,l0,_⟩:=DataW.trod_int Tryz.underlying3 h0
 simp at k0
 subst k0
 rw [l0] at e0
 simp at e0
 have h1:DataW.trod (fun _=>()) Tryz.prog W 0 (fun _=>true) false n 3 [c1]=some x1:=hel 1 (by omega)
 obtain ⟨n1,k1,l1,_⟩:=DataW.trod_int Tryz.underlying3 h1
 simp at k1
 subst k1
 rw [l1] at e1
 simp at e1
 have h2:DataW.trod (fun _=>()) Tryz.prog W 0 (fun _=>true) false n 3 [c2]=some x2:=hel 2 (by omega)
 obtain ⟨n2,k2,l2,_⟩:=DataW.trod_int Tryz.underlying3 h2
 simp at k2
 subst k2
 rw [l2] at e2
 simp at e2
 have h3:DataW.trod (fun _=>()) Tryz.prog W 0 (fun _=>true) false n 3 [c3]=some x3:=hel 3 (by omega)
 obtain ⟨n3,k3,l3,_⟩:=DataW.trod_int Tryz.underlying3 h3
 simp at k3
 subst k3
 rw [l3] at e3
 simp at e3
 have h4:DataW.trod (fun _=>()) Tryz.prog W 0 (fun _=>true) false n 3 [c4]=some x4:=hel 4 (by omega)
 obtain ⟨n4,k4,l4,_⟩:=DataW.trod_int Tryz.underlying3 h4
 simp at k4
 subst k4
 rw [l4] at e4
 simp at e4
 have h5:DataW.trod (fun _=>()) Tryz.prog W 0 (fun _=>true) false n 3 [c5]=some x5:=hel 5 (by omega)
 obtain ⟨n5,k5,l5,_⟩:=DataW.trod_int Tryz.underlying3 h5
 simp at k5
 subst k5
 rw [l5] at e5
 simp at e5
 subst e0 e1 e2 e3 e4 e5
 rfl
def joinChunk (q:Nat):List Value:=(joinCells.drop (q * 6)).take 6
theorem joinsAt_of {W:World} {L:List (String×DataW Unit)} (hm:("loop.example/g00592/impl.kindJoins",Rows.laid_loop_example_g00592_impl_kindJoins) ∈ L) (h:laidMet Tryz.prog L W):JoinsAt W:=by
 obtain ⟨ps,hv,_⟩:=h
 obtain ⟨g',t',cs,fuel,p,hg',ht',hvar,hd⟩:=laidVars_mem hv hm
 obtain rfl:=Option.some.inj ((show Tryz.prog.globalNamed "loop.example/g00592/impl.kindJoins"=some 2 by kernel_rfl).symm.trans hg')
 obtain rfl:=Option.some.inj ((show (Tryz.prog.globals[2]?).map (·.type)=some 241 by kernel_rfl).symm.trans ht')
 obtain ⟨xs,m,_,ex,hlen,hl,hel⟩:=DataW.trod_array Tryz.underlying241 hd
 rw [cellsJoins] at hlen
 rw [cellsJoinRow] at hel
 have e3:=(DataW.agg.inj (Prod.mk.inj ex).1)
 match xs,hl with
 | [x0,x1,x2,x3,x4,x5],_=>
 simp only [List.map_cons,List.map_nil,List.cons.injEq,and_true] at e3
 obtain ⟨e0,e1,e2,e3,e4,e5⟩:=e3
 have hc:∀ q,q<6→(cs.toList.drop (q * 6)).take 6=joinChunk q:=by
  intro q hq
  have hq6:q=0∨q=1∨q=2∨q=3∨q=4∨q=5:=by omega
  rcases hq6 with rfl | rfl | rfl | rfl | rfl | rfl
  ·have:=hel 0 (by omega)
   simp only [List.getElem?_cons_zero] at this
   rw [show x0=(x0.1,x0.2) from rfl,← e0] at this
   exact joinRow_cells this
  ·have:=hel 1 (by omega)
   simp only [List.getElem?_cons_zero,List.getElem?_cons_succ] at this
   rw [show x1=(x1.1,x1.2) from rfl,← e1] at this
   exact joinRow_cells this
  ·have:=hel 2 (by omega)
   simp only [List.getElem?_cons_zero,List.getElem?_cons_succ] at this
   rw [show x2=(x2.1,x2.2) from rfl,← e2] at this
   exact joinRow_cells this
  ·have:=hel 3 (by omega)
   simp only [List.getElem?_cons_zero,List.getElem?_cons_succ] at this
   rw [show x3=(x3.1,x3.2) from rfl,← e3] at this
   exact joinRow_cells this
  ·have:=hel 4 (by omega)
   simp only [List.getElem?_cons_zero,List.getElem?_cons_succ] at this
   rw [show x4=(x4.1,x4.2) from rfl,← e4] at this
   exact joinRow_cells this
  ·have:=hel 5 (by omega)
   simp only [List.getElem?_cons_zero,List.getElem?_cons_succ] at this
   rw [show x5=(x5.1,x5.2) from rfl,← e5] at this
   exact joinRow_cells this
 have hcell:∀ i,i<36→W.cell? ⟨2,i,none⟩=cs[i]?∧2<W.heap.size:=by
  intro i hi
  unfold World.var? at hvar
  rw [show Tryz.prog.globalNamed "loop.example/g00592/impl.kindJoins"=some 2 by kernel_rfl] at hvar
  simp only [Option.bind_some] at hvar
  cases hh:W.heap[2]? with
  | none=>rw [hh] at hvar;cases hvar
  | some ob=>
   rw [hh] at hvar
   cases ob with
   | cells cs' t' r=>
    cases hvar
    exact ⟨by simp [World.cell?,hh],(Array.getElem?_eq_some_iff.1 hh).1⟩
   | _=>cases hvar
 refine ⟨(hcell 0 (by omega)).2,fun i hi=>(hcell i hi).1.trans ?_⟩
 have h1:=congrArg (·[i % 6]?) (hc (i / 6) (by omega))
 simp only [joinChunk,List.getElem?_take,List.getElem?_drop] at h1
 rw [if_pos (by omega),if_pos (by omega),show i / 6 * 6+i % 6=i by omega] at h1
 simpa using h1
end
section
set_option maxRecDepth 100000
open Go.ChangeShapes Go.WideShapes Go.ChangeAt Go.RowKit
theorem errStar: "*"++ "errors.errorString"= "*errors.errorString":=by decide
theorem unfitRow (u:TypeId) (h:Tryz.prog.typeName? 3 u=some "*errors.errorString"):u=246:=
 typeName_ptr_named (nm:= "errors.errorString") (by rw [errStar];kernel_rfl) (by kernel_rfl) (by decide) u (by rw [errStar];exact h)
theorem cellsErr:Tryz.prog.cellsOf 271=1:=by kernel_rfl
theorem cellsErrText:Tryz.prog.cellsOf 9=1:=by kernel_rfl
theorem unfitAt_of {W:World} {r:List (String×DataW Unit)} (h:laidMet Tryz.prog (("loop.example/g00592/impl.errUnfit",Rows.laid_loop_example_g00592_impl_errUnfit)::r) W):∃ u,UnfitAt W u:=by
 obtain ⟨a,s,hv,_⟩:=Go.laid_sentinel h (show Tryz.prog.globalNamed "loop.example/g00592/impl.errUnfit"=some 0 by kernel_rfl) (show (Tryz.prog.globals[0]?).map (·.type)=some 85 by kernel_rfl) Tryz.underlying85 unfitRow Tryz.underlying246 Tryz.underlying271 rfl rfl Tryz.underlying9 cellsErr cellsErrText
 refine ⟨_,?_,?_,a,rfl⟩
 ·unfold World.var? at hv
  rw [show Tryz.prog.globalNamed "loop.example/g00592/impl.errUnfit"=some 0 by kernel_rfl] at hv
  simp only [Option.bind_some] at hv
  cases hh:W.heap[0]? with
  | none=>rw [hh] at hv;cases hv
  | some ob=>exact (Array.getElem?_eq_some_iff.1 hh).1
 ·exact World.var?_cell (show Tryz.prog.globalNamed "loop.example/g00592/impl.errUnfit"=some 0 by kernel_rfl) hv 0
end
section
set_option maxRecDepth 100000
open Go.ChangeShapes Go.WideShapes Go.ChangeAt Go.RowKit
theorem cellsForm:Tryz.prog.cellsOf 232=6:=by kernel_rfl
theorem cellsForms:Tryz.prog.cellsOf 233=36:=by kernel_rfl
theorem cellsBool:Tryz.prog.cellsOf 4=1:=by kernel_rfl
theorem cellsInt6:Tryz.prog.cellsOf 3=1:=by kernel_rfl
theorem form_cells {W:World} {cs:List Value} {fuel:Nat} {a b c d:Int} {b1 b2:Bool} {p:List MemPlace} (h:DataW.trod (fun _=>()) Tryz.prog W 0 (fun _=>true) false fuel 232 cs=some (.agg [.lit (.int .i64 a),.lit (.int .i64 b),.lit (.bool b1),.lit (.bool b2),.lit (.int .i64 c),.lit (.int .i64 d)],p)):
  cs=[.int .i64 a,.int .i64 b,.bool b1,.bool b2,.int .i64 c,.int .i64 d]:=by
 obtain ⟨xs,n,rfl,hx,hlen,hxl,hf⟩:=DataW.trod_struct Tryz.underlying232 h
 rw [cellsForm] at hlen
 have h0:DataW.trod (fun _=>()) Tryz.prog W 0 (fun _=>true) false n 3 ((cs.drop 0).take (Tryz.prog.cellsOf 3))=xs[0]?:=hf 0 _ rfl
 have h1:DataW.trod (fun _=>()) Tryz.prog W 0 (fun _=>true) false n 3 ((cs.drop 1).take (Tryz.prog.cellsOf 3))=xs[1]?:=hf 1 _ rfl
 have h2:DataW.trod (fun _=>()) Tryz.prog W 0 (fun _=>true) false n 4 ((cs.drop 2).take (Tryz.prog.cellsOf 4))=xs[2]?:=hf 2 _ rfl
 have h3:DataW.trod (fun _=>()) Tryz.prog W 0 (fun _=>true) false n 4 ((cs.drop 3).take (Tryz.prog.cellsOf 4))=xs[3]?:=hf 3 _ rfl
 have h4:DataW.trod (fun _=>()) Tryz.prog W 0 (fun _=>true) false n 3 ((cs.drop 4).take (Tryz.prog.cellsOf 3))=xs[4]?:=hf 4 _ rfl
 have h5:DataW.trod (fun _=>()) Tryz.prog W 0 (fun _=>true) false n 3 ((cs.drop 5).take (Tryz.prog.cellsOf 3))=xs[5]?:=hf 5 _ rfl
 rw [cellsInt6] at h0 h1 h4 h5
 rw [cellsBool] at h2 h3
 match cs,hlen with
 | [c0,c1,c2,c3,c4,c5],_=>
 match xs,hxl with
 | [x0,x1,x2,x3,x4,x5],_=>
 simp at h0 h1 h2 h3 h4 h5 hx
 obtain ⟨⟨e0,e1,e2,e3,e4,e5⟩,_⟩:=hx
 obtain ⟨n0,k0,l0,_⟩:=DataW.trod_int Tryz.underlying3 h0
 obtain ⟨n1,k1,l1,_⟩:=DataW.trod_int Tryz.underlying3 h1
 obtain ⟨n2,k2,l2⟩:=DataW.trod_bool Tryz.underlying4 h2
 obtain ⟨n3,k3,l3⟩:=DataW.trod_bool Tryz.underlying4 h3
 obtain ⟨n4,k4,l4,_⟩:=DataW.trod_int Tryz.underlying3 h4
 obtain ⟨n5,k5,l5,_⟩:=DataW.trod_int Tryz.underlying3 h5
 simp at k0 k1 k2 k3 k4 k5
 subst k0 k1 k2 k3 k4 k5
 rw [l0] at e0
 rw [l1] at e1
 rw [l2] at e2
 rw [l3] at e3
 rw [l4] at e4
 rw [l5] at e5
 simp at e0 e1 e2 e3 e4 e5
 subst e0 e1 e2 e3 e4 e5
 rfl
def formChunk (q:Nat):List Value:=(formCells.drop (q * 6)).take 6
theorem formsAt_of {W:World} {L:List (String×DataW Unit)} (hm:("loop.example/g00592/impl.valueForms",Rows.laid_loop_example_g00592_impl_valueForms) ∈ L) (h:laidMet Tryz.prog L W):FormsAt W:=by
 obtain ⟨ps,hv,_⟩:=h
 obtain ⟨g',t',cs,fuel,p,hg',ht',hvar,hd⟩:=laidVars_mem hv hm
 obtain rfl:=Option.some.inj ((show Tryz.prog.globalNamed "loop.example/g00592/impl.valueForms"=some 1 by kernel_rfl).symm.trans hg')
 obtain rfl:=Option.some.inj ((show (Tryz.prog.globals[1]?).map (·.type)=some 233 by kernel_rfl).symm.trans ht')
 obtain ⟨xs,m,_,ex,hlen,hl,hel⟩:=DataW.trod_array Tryz.underlying233 hd
 rw [cellsForms] at hlen
 rw [cellsForm] at hel
 have e3:=(DataW.agg.inj (Prod.mk.inj ex).1)
 match xs,hl with
 | [x0,x1,x2,x3,x4,x5],_=>
 simp only [List.map_cons,List.map_nil,List.cons.injEq,and_true] at e3
 obtain ⟨e0,e1,e2,e3,e4,e5⟩:=e3
 have hc:∀ q,q<6→(cs.toList.drop (q * 6)).take 6=formChunk q:=by
  intro q hq
  have hq6:q=0∨q=1∨q=2∨q=3∨q=4∨q=5:=by omega
  rcases hq6 with rfl | rfl | rfl | rfl | rfl | rfl
  ·have:=hel 0 (by omega)
   simp only [List.getElem?_cons_zero] at this
   rw [show x0=(x0.1,x0.2) from rfl,← e0] at this
   exact form_cells this
  ·have:=hel 1 (by omega)
   simp only [List.getElem?_cons_zero,List.getElem?_cons_succ] at this
   rw [show x1=(x1.1,x1.2) from rfl,← e1] at this
   exact form_cells this
  ·have:=hel 2 (by omega)
   simp only [List.getElem?_cons_zero,List.getElem?_cons_succ] at this
   rw [show x2=(x2.1,x2.2) from rfl,← e2] at this
   exact form_cells this
  ·have:=hel 3 (by omega)
   simp only [List.getElem?_cons_zero,List.getElem?_cons_succ] at this
   rw [show x3=(x3.1,x3.2) from rfl,← e3] at this
   exact form_cells this
  ·have:=hel 4 (by omega)
   simp only [List.getElem?_cons_zero,List.getElem?_cons_succ] at this
   rw [show x4=(x4.1,x4.2) from rfl,← e4] at this
   exact form_cells this
  ·have:=hel 5 (by omega)
   simp only [List.getElem?_cons_zero,List.getElem?_cons_succ] at this
   rw [show x5=(x5.1,x5.2) from rfl,← e5] at this
   exact form_cells this
 have hcell:∀ i,i<36→W.cell? ⟨1,i,none⟩=cs[i]?∧1<W.heap.size:=by
  intro i hi
  unfold World.var? at hvar
  rw [show Tryz.prog.globalNamed "loop.example/g00592/impl.valueForms"=some 1 by kernel_rfl] at hvar
  simp only [Option.bind_some] at hvar
  cases hh:W.heap[1]? with
  | none=>rw [hh] at hvar;cases hvar
  | some ob=>
   rw [hh] at hvar
   cases ob with
   | cells cs' t' r=>
    cases hvar
    exact ⟨by simp [World.cell?,hh],(Array.getElem?_eq_some_iff.1 hh).1⟩
   | _=>cases hvar
 refine ⟨(hcell 0 (by omega)).2,fun i hi=>(hcell i hi).1.trans ?_⟩
 have h1:=congrArg (·[i % 6]?) (hc (i / 6) (by omega))
 simp only [formChunk,List.getElem?_take,List.getElem?_drop] at h1
 rw [if_pos (by omega),if_pos (by omega),show i / 6 * 6+i % 6=i by omega] at h1
 simpa using h1
end
end Go.Proofs.YtfnblkcmcfofoaaGreatDoor
