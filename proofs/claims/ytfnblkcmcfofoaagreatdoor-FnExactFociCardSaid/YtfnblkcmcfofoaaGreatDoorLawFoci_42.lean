/- Lemmas: ImplOForm. -/
import Derived.Test.YtfnblkcmcfofoaaGreatDoorLawFoci_15
import Derived.Test.YtfnblkcmcfofoaaGreatDoorLawFoci_25
import Derived.Test.YtfnblkcmcfofoaaGreatDoorLawFoci_27
import Derived.Deep.MidRow

namespace Go.Proofs.YtfnblkcmcfofoaaGreatDoor
set_option maxRecDepth 100000
open Go.RowKit
theorem run_store_func {P:Program} {w:World} {a:Addr} {m:Mode} (f:Fn) (fr bs:Array Value):(store a (.func f fr bs) m).run P w=stored P w a (.func f fr bs) m:=run_store P w a _ m rfl
theorem run_store_nilFunc {P:Program} {w:World} {a:Addr} {m:Mode}:(store a .nilFunc m).run P w=stored P w a .nilFunc m:=run_store P w a _ m rfl
attribute [local go_sem] run_store_func run_store_nilFunc
def formTab:Array Value:=#[.int .i64 0,.nilFunc,.int .i64 0,.func (.func 199) #[] #[],.int .i64 0,.func (.func 200) #[] #[],.int .i64 0,.func (.func 200) #[] #[],.int .i64 0,.func (.func 199) #[] #[],.int .i64 0,.func (.func 199) #[] #[],.int .i64 0,.func (.func 201) #[] #[],.int .i64 0,.func (.func 202) #[] #[],.int .i64 0,.func (.func 199) #[] #[],.int .i64 0,.func (.func 199) #[] #[],.int .i64 0,.func (.func 200) #[] #[],.int .i64 1,.func (.func 199) #[] #[],.int .i64 2,.func (.func 199) #[] #[],.int .i64 2,.func (.func 199) #[] #[]]
theorem infoTab:(Tryz.prog.info? 229).map (·.size)=some formTab.size:=by kernel_rfl
theorem allTab:formTab.all (·.oneCell')=true:=by kernel_rfl
theorem sizeTab:formTab.size=28:=by kernel_rfl
theorem Below.setCells {B:Nat} {a:World} {b:Nat} (hB:B≤b):∀ (vs:List Value) (o:Nat) (w:World),Below B a w→Below B a (w.setCells b o vs)
 | [],_,_,h=>h
 | v::r,o,_,h=>Below.setCells hB r (o+1) _ (h.setCell (p:=⟨b,o,none⟩) hB v)
def fitFn (k:Int):Nat:=if k=2∨k=3∨k=10 then 200 else if k=6 then 201 else if k=7 then 202 else 199
theorem laidOver (w:World) (t1 t2:TypeId) (a b c:Array Value) (h:b.size=c.size):∃ wx:World,((w.alloc (.cells a t1)).alloc (.cells b t2)).there (w.heap.size+1) 0 c.size∧((w.alloc (.cells a t1)).alloc (.cells b t2)).setCells (w.heap.size+1) 0 c.toList=wx∧
  (∀ j,wx.cell? ⟨w.heap.size+1,j,none⟩=c[j]?)∧(∀ j,wx.cell? ⟨w.heap.size,j,none⟩=a[j]?)∧(∀ j,wx.frozen? ⟨w.heap.size,j,none⟩=false)∧Below w.heap.size w wx:=by
 obtain ⟨hb,p0,q0,hs⟩:=boxes2 w t1 t2 a b
 have ht:((w.alloc (.cells a t1)).alloc (.cells b t2)).there (w.heap.size+1) 0 c.size:=fun j hj=>⟨by
  rw [Nat.zero_add,q0.cell j,Array.getElem?_eq_getElem (by omega),Option.isSome_some],by rw [Nat.zero_add];exact q0.free j⟩
 refine ⟨_,ht,rfl,fun j=>?_,fun j=>?_,fun j=>?_,Below.setCells (by omega) _ _ _ hb⟩
 ·by_cases hj:j<c.size
  ·have:=World.cell?_setCells_in (w.heap.size+1) c.toList 0 _ (fun i hi=>(ht i (by simpa using hi)).1) j (by simpa using hj)
   rw [Nat.zero_add] at this
   rw [this,Array.getElem?_eq_getElem hj,Array.getElem_toList]
  ·rw [World.cell?_setCells_out _ _ _ _ _ (fun _ _=>Or.inr (by simp;omega)),q0.cell j,Array.getElem?_eq_none (by omega),Array.getElem?_eq_none (by omega)]
 ·rw [World.cell?_setCells_out _ _ _ _ _ (fun h=>absurd h (by simp))]
  exact p0.cell j
 ·rw [World.frozen?_setCells]
  exact p0.free j
set_option maxHeartbeats 16000000 in
theorem opticForm_yes (k:Int) (h1:1≤k) (h2:k≤13) (w:World):Calls Tryz.prog 185 #[.int .i64 k] w fun e w'=>e=.returned (.tuple #[.agg #[.int .i64 (arityI k),.func (.func (fitFn k)) #[] #[]],.bool true])∧Below w.heap.size w w':=by
 obtain ⟨wx,ht,he,hW,hO,hF,hB⟩:=laidOver w 202 229 #[.int .i64 0,.nilFunc] #[.int .i64 0,.nilFunc,.int .i64 0,.nilFunc,.int .i64 0,.nilFunc,.int .i64 0,.nilFunc,.int .i64 0,.nilFunc,.int .i64 0,.nilFunc,.int .i64 0,.nilFunc,.int .i64 0,.nilFunc,.int .i64 0,.nilFunc,.int .i64 0,.nilFunc,.int .i64 0,.nilFunc,.int .i64 0,.nilFunc,.int .i64 0,.nilFunc,.int .i64 0,.nilFunc] formTab (by rw [sizeTab];rfl)
 have HT:=Lib.hid ht
 have HE:=Lib.hid he
 have HW:=Lib.hid hW
 have HB:=Lib.hid hB
 have c0:wx.cell? ⟨w.heap.size,0,none⟩=some (.int .i64 0):=hO 0
 have c1:wx.cell? ⟨w.heap.size,1,none⟩=some .nilFunc:=hO 1
 have f0:=hF 0
 have f1:=hF 1
 clear ht he hW hO hF hB
 go_enter Tryz.func185,Tryz.ntmps185
 go_upto_region 3 with fail
 iterate 46 go_step
 refine wpList_store_mid rfl 229 (.tmp 4) (.tmp 25) rfl (w.heap.size+1) 0 formTab rfl rfl HT.out infoTab allTab ?_
 rw [HE.out]
 have HW':=HW.out
 have hk:k=1∨k=2∨k=3∨k=4∨k=5∨k=6∨k=7∨k=8∨k=9∨k=10∨k=11∨k=12∨k=13:=by omega
 clear h1 h2 HT HE HW
 rcases hk with rfl | rfl | rfl | rfl | rfl | rfl | rfl | rfl | rfl | rfl | rfl | rfl | rfl
 ·have d0:wx.cell? ⟨w.heap.size+1,2,none⟩=some (.int .i64 0):=HW' 2
  have d1:wx.cell? ⟨w.heap.size+1,3,none⟩=some (.func (.func 199) #[] #[]):=HW' 3
  clear HW'
  go_wp2
  refine bodyPost_ret (v:=.tuple #[.agg #[.int .i64 0,.func (.func 199) #[] #[]],.bool true]) (by simp [results,Tryz.results185,go_sem,c0,c1]) rfl ⟨rfl,(HB.out.setCell (by simp) _).setCell (by simp) _⟩
 ·have d0:wx.cell? ⟨w.heap.size+1,4,none⟩=some (.int .i64 0):=HW' 4
  have d1:wx.cell? ⟨w.heap.size+1,5,none⟩=some (.func (.func 200) #[] #[]):=HW' 5
  clear HW'
  go_wp2
  refine bodyPost_ret (v:=.tuple #[.agg #[.int .i64 0,.func (.func 200) #[] #[]],.bool true]) (by simp [results,Tryz.results185,go_sem,c0,c1]) rfl ⟨rfl,(HB.out.setCell (by simp) _).setCell (by simp) _⟩
 ·have d0:wx.cell? ⟨w.heap.size+1,6,none⟩=some (.int .i64 0):=HW' 6
  have d1:wx.cell? ⟨w.heap.size+1,7,none⟩=some (.func (.func 200) #[] #[]):=HW' 7
  clear HW'
  go_wp2
  refine bodyPost_ret (v:=.tuple #[.agg #[.int .i64 0,.func (.func 200) #[] #[]],.bool true]) (by simp [results,Tryz.results185,go_sem,c0,c1]) rfl ⟨rfl,(HB.out.setCell (by simp) _).setCell (by simp) _⟩
 ·have d0:wx.cell? ⟨w.heap.size+1,8,none⟩=some (.int .i64 0):=HW' 8
  have d1:wx.cell? ⟨w.heap.size+1,9,none⟩=some (.func (.func 199) #[] #[]):=HW' 9
  clear HW'
  go_wp2
  refine bodyPost_ret (v:=.tuple #[.agg #[.int .i64 0,.func (.func 199) #[] #[]],.bool true]) (by simp [results,Tryz.results185,go_sem,c0,c1]) rfl ⟨rfl,(HB.out.setCell (by simp) _).setCell (by simp) _⟩
 ·have d0:wx.cell? ⟨w.heap.size+1,10,none⟩=some (.int .i64 0):=HW' 10
  have d1:wx.cell? ⟨w.heap.size+1,11,none⟩=some (.func (.func 199) #[] #[]):=HW' 11
  clear HW'
  go_wp2
  refine bodyPost_ret (v:=.tuple #[.agg #[.int .i64 0,.func (.func 199) #[] #[]],.bool true]) (by simp [results,Tryz.results185,go_sem,c0,c1]) rfl ⟨rfl,(HB.out.setCell (by simp) _).setCell (by simp) _⟩
 ·have d0:wx.cell? ⟨w.heap.size+1,12,none⟩=some (.int .i64 0):=HW' 12
  have d1:wx.cell? ⟨w.heap.size+1,13,none⟩=some (.func (.func 201) #[] #[]):=HW' 13
  clear HW'
  go_wp2
  refine bodyPost_ret (v:=.tuple #[.agg #[.int .i64 0,.func (.func 201) #[] #[]],.bool true]) (by simp [results,Tryz.results185,go_sem,c0,c1]) rfl ⟨rfl,(HB.out.setCell (by simp) _).setCell (by simp) _⟩
 ·have d0:wx.cell? ⟨w.heap.size+1,14,none⟩=some (.int .i64 0):=HW' 14
  have d1:wx.cell? ⟨w.heap.size+1,15,none⟩=some (.func (.func 202) #[] #[]):=HW' 15
  clear HW'
  go_wp2
  refine bodyPost_ret (v:=.tuple #[.agg #[.int .i64 0,.func (.func 202) #[] #[]],.bool true]) (by simp [results,Tryz.results185,go_sem,c0,c1]) rfl ⟨rfl,(HB.out.setCell (by simp) _).setCell (by simp) _⟩
 ·have d0:wx.cell? ⟨w.heap.size+1,16,none⟩=some (.int .i64 0):=HW' 16
  have d1:wx.cell? ⟨w.heap.size+1,17,none⟩=some (.func (.func 199) #[] #[]):=HW' 17
  clear HW'
  go_wp2
  refine bodyPost_ret (v:=.tuple #[.agg #[.int .i64 0,.func (.func 199) #[] #[]],.bool true]) (by simp [results,Tryz.results185,go_sem,c0,c1]) rfl ⟨rfl,(HB.out.setCell (by simp) _).setCell (by simp) _⟩
 ·have d0:wx.cell? ⟨w.heap.size+1,18,none⟩=some (.int .i64 0):=HW' 18
  have d1:wx.cell? ⟨w.heap.size+1,19,none⟩=some (.func (.func 199) #[] #[]):=HW' 19
  clear HW'
  go_wp2
  refine bodyPost_ret (v:=.tuple #[.agg #[.int .i64 0,.func (.func 199) #[] #[]],.bool true]) (by simp [results,Tryz.results185,go_sem,c0,c1]) rfl ⟨rfl,(HB.out.setCell (by simp) _).setCell (by simp) _⟩
 ·have d0:wx.cell? ⟨w.heap.size+1,20,none⟩=some (.int .i64 0):=HW' 20
  have d1:wx.cell? ⟨w.heap.size+1,21,none⟩=some (.func (.func 200) #[] #[]):=HW' 21
  clear HW'
  go_wp2
  refine bodyPost_ret (v:=.tuple #[.agg #[.int .i64 0,.func (.func 200) #[] #[]],.bool true]) (by simp [results,Tryz.results185,go_sem,c0,c1]) rfl ⟨rfl,(HB.out.setCell (by simp) _).setCell (by simp) _⟩
 ·have d0:wx.cell? ⟨w.heap.size+1,22,none⟩=some (.int .i64 1):=HW' 22
  have d1:wx.cell? ⟨w.heap.size+1,23,none⟩=some (.func (.func 199) #[] #[]):=HW' 23
  clear HW'
  go_wp2
  refine bodyPost_ret (v:=.tuple #[.agg #[.int .i64 1,.func (.func 199) #[] #[]],.bool true]) (by simp [results,Tryz.results185,go_sem,c0,c1]) rfl ⟨rfl,(HB.out.setCell (by simp) _).setCell (by simp) _⟩
 ·have d0:wx.cell? ⟨w.heap.size+1,24,none⟩=some (.int .i64 2):=HW' 24
  have d1:wx.cell? ⟨w.heap.size+1,25,none⟩=some (.func (.func 199) #[] #[]):=HW' 25
  clear HW'
  go_wp2
  refine bodyPost_ret (v:=.tuple #[.agg #[.int .i64 2,.func (.func 199) #[] #[]],.bool true]) (by simp [results,Tryz.results185,go_sem,c0,c1]) rfl ⟨rfl,(HB.out.setCell (by simp) _).setCell (by simp) _⟩
 ·have d0:wx.cell? ⟨w.heap.size+1,26,none⟩=some (.int .i64 2):=HW' 26
  have d1:wx.cell? ⟨w.heap.size+1,27,none⟩=some (.func (.func 199) #[] #[]):=HW' 27
  clear HW'
  go_wp2
  refine bodyPost_ret (v:=.tuple #[.agg #[.int .i64 2,.func (.func 199) #[] #[]],.bool true]) (by simp [results,Tryz.results185,go_sem,c0,c1]) rfl ⟨rfl,(HB.out.setCell (by simp) _).setCell (by simp) _⟩
theorem opticForm_no (k:Int) (h:k<1∨13<k) (w:World):Calls Tryz.prog 185 #[.int .i64 k] w fun e w'=>e=.returned (.tuple #[.agg #[.int .i64 0,.nilFunc],.bool false])∧Below w.heap.size w w':=by
 obtain ⟨hb,p0,hs⟩:=boxes1 w 202 #[.int .i64 0,.nilFunc]
 have c0:=p0.cell 0
 have c1:=p0.cell 1
 have f0:=p0.free 0
 have f1:=p0.free 1
 have HB:=Lib.hid hb
 clear hb hs p0
 by_cases h1:k<1
 ·clear h
  go_enter Tryz.func185,Tryz.ntmps185
  go_wp2
  refine bodyPost_ret (v:=.tuple #[.agg #[.int .i64 0,.nilFunc],.bool false]) (by simp [results,Tryz.results185,go_sem,c0,c1]) rfl ⟨rfl,HB.out⟩
 ·have h2:13<k:=by omega
  clear h
  go_enter Tryz.func185,Tryz.ntmps185
  go_wp2
  refine bodyPost_ret (v:=.tuple #[.agg #[.int .i64 0,.nilFunc],.bool false]) (by simp [results,Tryz.results185,go_sem,c0,c1]) rfl ⟨rfl,HB.out⟩
def fitB (k n:Int) (nm:ByteArray):Bool:=(if k=2∨k=3∨k=10 then isNameB nm else decide (nm.size=0))&&numOB k n
theorem nodeOB_fit (k n:Int) (nm:ByteArray) (m:Nat):nodeOB k n nm m=(decide ((m:Int)=arityI k)&&fitB k n nm):=by
 unfold nodeOB fitB
 cases decide ((m:Int)=arityI k)<;>simp
set_option maxHeartbeats 1000000 in
theorem kindOnly_any (t:Ot) (v:Value) (w:World) (hv:OtAt w w.heap.size v t):Calls Tryz.prog 199 #[v] w (BoolIs (decide (t.name.size=0)&&decide (t.num=0)) w):=by
 obtain ⟨A,ac,rfl,_⟩:=hv.open
 obtain ⟨hb0,p0,hs0⟩:=boxes1 w 30 #[.int .i64 t.kind,.string t.name,.int .i64 t.num,.slice A t.args.length ac]
 clear hv hs0
 by_cases hn:t.name.size=0
 ·have hnil:=osize_nil hn
  rw [show (decide (t.name.size=0)&&decide (t.num=0))=decide (t.num=0) by simp [hn]]
  rw [hnil] at p0 hb0 ⊢
  clear hn
  by_cases hm:t.num=0
  ·have i1:(t.num == 0)=true:=by rw [beq_iff_eq];exact hm
   rw [show decide (t.num=0)=true by simp [hm]]
   clear hm
   go_enter Tryz.func199,Tryz.ntmps199
   go_wp2
   go_ret
   exact ⟨rfl,hb0⟩
  ·have i1:(t.num == 0)=false:=by rw [beq_eq_false_iff_ne];exact hm
   rw [show decide (t.num=0)=false by simp [hm]]
   clear hm
   go_enter Tryz.func199,Tryz.ntmps199
   go_wp2
   go_ret
   exact ⟨rfl,hb0⟩
 ·have i2:=otoList_nil_no hn
  rw [show (decide (t.name.size=0)&&decide (t.num=0))=false by simp [hn]]
  clear hn
  go_enter Tryz.func199,Tryz.ntmps199
  go_wp2
  go_ret
  exact ⟨rfl,hb0⟩
set_option maxHeartbeats 1000000 in
theorem nameOnly_any (t:Ot) (v:Value) (w:World) (hv:OtAt w w.heap.size v t):Calls Tryz.prog 200 #[v] w (BoolIs (isNameB t.name&&decide (t.num=0)) w):=by
 obtain ⟨A,ac,rfl,hnm,_⟩:=hv.open
 obtain ⟨hb0,p0,hs0⟩:=boxes1 w 30 #[.int .i64 t.kind,.string t.name,.int .i64 t.num,.slice A t.args.length ac]
 have HN:=fun W=>implIsName_any t.name W hnm
 clear hv hs0
 cases hin:isNameB t.name
 ·rw [hin] at HN
  have HN':=Lib.hid HN
  clear HN hin
  go_enter Tryz.func200,Tryz.ntmps200
  go_wp2_with fail
  refine (HN'.out _).mono ?_
  rintro e w1 ⟨rfl,hb1⟩
  go_wp2
  go_ret
  exact ⟨rfl,hb0.trans (hb1.mono hb0.size)⟩
 ·rw [hin] at HN
  have HN':=Lib.hid HN
  clear HN hin
  have hpl:=p0.lt
  go_enter Tryz.func200,Tryz.ntmps200
  go_wp2_with fail
  generalize w.alloc (.cells #[.int .i64 t.kind,.string t.name,.int .i64 t.num,.slice A t.args.length ac] 30)=w0 at *
  refine (HN'.out _).mono ?_
  rintro e w1 ⟨rfl,hb1⟩
  have c2:w1.cell? ⟨w.heap.size,2,none⟩=some (.int .i64 t.num):=(p0.below hb1 hpl).cell 2
  have hb2:=hb0.trans (hb1.mono hb0.size)
  by_cases hm:t.num=0
  ·have i1:(t.num == 0)=true:=by rw [beq_iff_eq];exact hm
   have hr:=Lib.hid (show decide (t.num=0)=true by simp [hm])
   clear hm
   go_wp2
   go_ret
   exact ⟨by rw [hr.out];rfl,hb2⟩
  ·have i1:(t.num == 0)=false:=by rw [beq_eq_false_iff_ne];exact hm
   have hr:=Lib.hid (show decide (t.num=0)=false by simp [hm])
   clear hm
   go_wp2
   go_ret
   exact ⟨by rw [hr.out];rfl,hb2⟩
set_option maxHeartbeats 1000000 in
theorem indexOnly_any (t:Ot) (v:Value) (w:World) (hv:OtAt w w.heap.size v t):Calls Tryz.prog 201 #[v] w (BoolIs (decide (t.name.size=0)&&decide (0≤t.num∧t.num≤1000)) w):=by
 obtain ⟨A,ac,rfl,_⟩:=hv.open
 obtain ⟨hb0,p0,hs0⟩:=boxes1 w 30 #[.int .i64 t.kind,.string t.name,.int .i64 t.num,.slice A t.args.length ac]
 clear hv hs0
 by_cases hn:t.name.size=0
 ·have hnil:=osize_nil hn
  rw [show (decide (t.name.size=0)&&decide (0≤t.num∧t.num≤1000))=decide (0≤t.num∧t.num≤1000) by simp [hn]]
  rw [hnil] at p0 hb0 ⊢
  clear hn
  by_cases hm:0≤t.num
  ·have i1:decide (0≤t.num)=true:=by simp;omega
   by_cases hm2:t.num≤1000
   ·have i3:decide (t.num≤1000)=true:=by simp;omega
    rw [show decide (0≤t.num∧t.num≤1000)=true from decide_eq_true ⟨hm,hm2⟩]
    go_enter Tryz.func201,Tryz.ntmps201
    go_wp2
    go_ret
    exact ⟨rfl,hb0⟩
   ·have i3:decide (t.num≤1000)=false:=by simp;omega
    rw [show decide (0≤t.num∧t.num≤1000)=false from decide_eq_false fun h=>hm2 h.2]
    clear hm2
    go_enter Tryz.func201,Tryz.ntmps201
    go_wp2
    go_ret
    exact ⟨rfl,hb0⟩
  ·have i1:decide (0≤t.num)=false:=by simp;omega
   rw [show decide (0≤t.num∧t.num≤1000)=false from decide_eq_false fun h=>hm h.1]
   clear hm
   go_enter Tryz.func201,Tryz.ntmps201
   go_wp2
   go_ret
   exact ⟨rfl,hb0⟩
 ·have i2:=otoList_nil_no hn
  rw [show (decide (t.name.size=0)&&decide (0≤t.num∧t.num≤1000))=false by simp [hn]]
  clear hn
  go_enter Tryz.func201,Tryz.ntmps201
  go_wp2
  go_ret
  exact ⟨rfl,hb0⟩
set_option maxHeartbeats 1000000 in
theorem summandOnly_any (t:Ot) (v:Value) (w:World) (hv:OtAt w w.heap.size v t):Calls Tryz.prog 202 #[v] w (BoolIs (decide (t.name.size=0)&&decide (-1000≤t.num∧t.num≤1000)) w):=by
 obtain ⟨A,ac,rfl,_⟩:=hv.open
 obtain ⟨hb0,p0,hs0⟩:=boxes1 w 30 #[.int .i64 t.kind,.string t.name,.int .i64 t.num,.slice A t.args.length ac]
 clear hv hs0
 by_cases hn:t.name.size=0
 ·have hnil:=osize_nil hn
  rw [show (decide (t.name.size=0)&&decide (-1000≤t.num∧t.num≤1000))=decide (-1000≤t.num∧t.num≤1000) by simp [hn]]
  rw [hnil] at p0 hb0 ⊢
  clear hn
  by_cases hm:-1000≤t.num
  ·have i1:decide (-1000≤t.num)=true:=by simp;omega
   by_cases hm2:t.num≤1000
   ·have i3:decide (t.num≤1000)=true:=by simp;omega
    rw [show decide (-1000≤t.num∧t.num≤1000)=true from decide_eq_true ⟨hm,hm2⟩]
    go_enter Tryz.func202,Tryz.ntmps202
    go_wp2
    go_ret
    exact ⟨rfl,hb0⟩
   ·have i3:decide (t.num≤1000)=false:=by simp;omega
    rw [show decide (-1000≤t.num∧t.num≤1000)=false from decide_eq_false fun h=>hm2 h.2]
    clear hm2
    go_enter Tryz.func202,Tryz.ntmps202
    go_wp2
    go_ret
    exact ⟨rfl,hb0⟩
  ·have i1:decide (-1000≤t.num)=false:=by simp;omega
   rw [show decide (-1000≤t.num∧t.num≤1000)=false from decide_eq_false fun h=>hm h.1]
   clear hm
   go_enter Tryz.func202,Tryz.ntmps202
   go_wp2
   go_ret
   exact ⟨rfl,hb0⟩
 ·have i2:=otoList_nil_no hn
  rw [show (decide (t.name.size=0)&&decide (-1000≤t.num∧t.num≤1000))=false by simp [hn]]
  clear hn
  go_enter Tryz.func202,Tryz.ntmps202
  go_wp2
  go_ret
  exact ⟨rfl,hb0⟩
theorem fit_any (k:Int) (t:Ot) (v:Value) (w:World) (hv:OtAt w w.heap.size v t):Calls Tryz.prog (fitFn k) #[v] w (BoolIs (fitB k t.num t.name) w):=by
 unfold fitFn fitB numOB
 by_cases h1:k=2∨k=3∨k=10
 ·rw [if_pos h1,if_pos h1,if_neg (by omega),if_neg (by omega)]
  exact nameOnly_any t v w hv
 ·rw [if_neg h1,if_neg h1]
  by_cases h2:k=6
  ·rw [if_pos h2,if_pos h2]
   exact indexOnly_any t v w hv
  ·rw [if_neg h2,if_neg h2]
   by_cases h3:k=7
   ·rw [if_pos h3,if_pos h3]
    exact summandOnly_any t v w hv
   ·rw [if_neg h3,if_neg h3]
    exact kindOnly_any t v w hv
set_option maxHeartbeats 4000000 in
theorem hasForm_any (t:Ot) (v:Value) (w:World) (hv:OtAt w w.heap.size v t):Calls Tryz.prog 150 #[v] w (BoolIs (nodeOB t.kind t.num t.name t.args.length) w):=by
 have hv0:=hv
 rw [nodeOB_fit]
 obtain ⟨A,ac,rfl,_,ha⟩:=hv.open
 have hm:=ha.1
 unfold maxLen at hm
 obtain ⟨hb0,p0,hs0⟩:=boxes1 w 30 #[.int .i64 t.kind,.string t.name,.int .i64 t.num,.slice A t.args.length ac]
 have hv1:=hv0.up hb0
 have hpl:=p0.lt
 clear hv hv0 ha hs0
 by_cases hk:1≤t.kind∧t.kind≤13
 ·have HF0:=fun W=>opticForm_yes t.kind hk.1 hk.2 W
  have HT0:=fun V W h=>fit_any t.kind t V W h
  have hcl:fitFn t.kind=199∨fitFn t.kind=200∨fitFn t.kind=201∨fitFn t.kind=202:=by unfold fitFn;split;exact .inr (.inl rfl);split;exact .inr (.inr (.inl rfl));split;exact .inr (.inr (.inr rfl));exact .inl rfl
  clear hk
  rcases hcl with hf | hf | hf | hf
  ·rw [hf] at HF0 HT0
   have HF:=Lib.hid HF0
   have HT1:=Lib.hid HT0
   clear hf HF0 HT0
   go_enter Tryz.func150,Tryz.ntmps150
   go_wp2_with fail
   generalize w.alloc (.cells #[.int .i64 t.kind,.string t.name,.int .i64 t.num,.slice A t.args.length ac] 30)=w0 at *
   refine (HF.out _).mono ?_
   rintro e w1 ⟨rfl,hb1⟩
   have p1:=p0.below hb1 hpl
   have hv2:=hv1.up hb1
   have hb1':=hb0.trans (hb1.mono hb0.size)
   have hpl1:=p1.lt
   obtain ⟨hb2,q2,hs2⟩:=boxes1 w1 202 #[.int .i64 (arityI t.kind),.func (.func 199) #[] #[]]
   have hv3:=hv2.up hb2
   have hb2':=hb1'.trans (hb2.mono hb1'.size)
   obtain ⟨c0,c1,c2,c3⟩:=p1.c4
   clear hs2 hv2 p0 hv1
   by_cases hl:(t.args.length:Int)=arityI t.kind
   ·have i3:((t.args.length:Int) == arityI t.kind)=true:=by rw [beq_iff_eq];exact hl
    have hr:=Lib.hid (show (decide ((t.args.length:Int)=arityI t.kind)&&fitB t.kind t.num t.name)=fitB t.kind t.num t.name by rw [decide_eq_true hl,Bool.true_and])
    have HT:=Lib.hid (HT1.out _ _ hv3)
    clear hl hv3
    go_wp2_with fail
    refine HT.out.mono ?_
    rintro e w3 ⟨rfl,hb3⟩
    go_wp2
    go_ret
    exact ⟨by rw [hr.out];rfl,hb2'.trans (hb3.mono hb2'.size)⟩
   ·have i3:((t.args.length:Int) == arityI t.kind)=false:=by rw [beq_eq_false_iff_ne];exact hl
    have hr:=Lib.hid (show (decide ((t.args.length:Int)=arityI t.kind)&&fitB t.kind t.num t.name)=false by rw [decide_eq_false hl,Bool.false_and])
    clear hl hv3
    go_wp2
    go_ret
    exact ⟨by rw [hr.out];rfl,hb2'⟩
  ·rw [hf] at HF0 HT0
   have HF:=Lib.hid HF0
   have HT1:=Lib.hid HT0
   clear hf HF0 HT0
   go_enter Tryz.func150,Tryz.ntmps150
   go_wp2_with fail
   generalize w.alloc (.cells #[.int .i64 t.kind,.string t.name,.int .i64 t.num,.slice A t.args.length ac] 30)=w0 at *
   refine (HF.out _).mono ?_
   rintro e w1 ⟨rfl,hb1⟩
   have p1:=p0.below hb1 hpl
   have hv2:=hv1.up hb1
   have hb1':=hb0.trans (hb1.mono hb0.size)
   have hpl1:=p1.lt
   obtain ⟨hb2,q2,hs2⟩:=boxes1 w1 202 #[.int .i64 (arityI t.kind),.func (.func 200) #[] #[]]
   have hv3:=hv2.up hb2
   have hb2':=hb1'.trans (hb2.mono hb1'.size)
   obtain ⟨c0,c1,c2,c3⟩:=p1.c4
   clear hs2 hv2 p0 hv1
   by_cases hl:(t.args.length:Int)=arityI t.kind
   ·have i3:((t.args.length:Int) == arityI t.kind)=true:=by rw [beq_iff_eq];exact hl
    have hr:=Lib.hid (show (decide ((t.args.length:Int)=arityI t.kind)&&fitB t.kind t.num t.name)=fitB t.kind t.num t.name by rw [decide_eq_true hl,Bool.true_and])
    have HT:=Lib.hid (HT1.out _ _ hv3)
    clear hl hv3
    go_wp2_with fail
    refine HT.out.mono ?_
    rintro e w3 ⟨rfl,hb3⟩
    go_wp2
    go_ret
    exact ⟨by rw [hr.out];rfl,hb2'.trans (hb3.mono hb2'.size)⟩
   ·have i3:((t.args.length:Int) == arityI t.kind)=false:=by rw [beq_eq_false_iff_ne];exact hl
    have hr:=Lib.hid (show (decide ((t.args.length:Int)=arityI t.kind)&&fitB t.kind t.num t.name)=false by rw [decide_eq_false hl,Bool.false_and])
    clear hl hv3
    go_wp2
    go_ret
    exact ⟨by rw [hr.out];rfl,hb2'⟩
  ·rw [hf] at HF0 HT0
   have HF:=Lib.hid HF0
   have HT1:=Lib.hid HT0
   clear hf HF0 HT0
   go_enter Tryz.func150,Tryz.ntmps150
   go_wp2_with fail
   generalize w.alloc (.cells #[.int .i64 t.kind,.string t.name,.int .i64 t.num,.slice A t.args.length ac] 30)=w0 at *
   refine (HF.out _).mono ?_
   rintro e w1 ⟨rfl,hb1⟩
   have p1:=p0.below hb1 hpl
   have hv2:=hv1.up hb1
   have hb1':=hb0.trans (hb1.mono hb0.size)
   have hpl1:=p1.lt
   obtain ⟨hb2,q2,hs2⟩:=boxes1 w1 202 #[.int .i64 (arityI t.kind),.func (.func 201) #[] #[]]
   have hv3:=hv2.up hb2
   have hb2':=hb1'.trans (hb2.mono hb1'.size)
   obtain ⟨c0,c1,c2,c3⟩:=p1.c4
   clear hs2 hv2 p0 hv1
   by_cases hl:(t.args.length:Int)=arityI t.kind
   ·have i3:((t.args.length:Int) == arityI t.kind)=true:=by rw [beq_iff_eq];exact hl
    have hr:=Lib.hid (show (decide ((t.args.length:Int)=arityI t.kind)&&fitB t.kind t.num t.name)=fitB t.kind t.num t.name by rw [decide_eq_true hl,Bool.true_and])
    have HT:=Lib.hid (HT1.out _ _ hv3)
    clear hl hv3
    go_wp2_with fail
    refine HT.out.mono ?_
    rintro e w3 ⟨rfl,hb3⟩
    go_wp2
    go_ret
    exact ⟨by rw [hr.out];rfl,hb2'.trans (hb3.mono hb2'.size)⟩
   ·have i3:((t.args.length:Int) == arityI t.kind)=false:=by rw [beq_eq_false_iff_ne];exact hl
    have hr:=Lib.hid (show (decide ((t.args.length:Int)=arityI t.kind)&&fitB t.kind t.num t.name)=false by rw [decide_eq_false hl,Bool.false_and])
    clear hl hv3
    go_wp2
    go_ret
    exact ⟨by rw [hr.out];rfl,hb2'⟩
  ·rw [hf] at HF0 HT0
   have HF:=Lib.hid HF0
   have HT1:=Lib.hid HT0
   clear hf HF0 HT0
   go_enter Tryz.func150,Tryz.ntmps150
   go_wp2_with fail
   generalize w.alloc (.cells #[.int .i64 t.kind,.string t.name,.int .i64 t.num,.slice A t.args.length ac] 30)=w0 at *
   refine (HF.out _).mono ?_
   rintro e w1 ⟨rfl,hb1⟩
   have p1:=p0.below hb1 hpl
   have hv2:=hv1.up hb1
   have hb1':=hb0.trans (hb1.mono hb0.size)
   have hpl1:=p1.lt
   obtain ⟨hb2,q2,hs2⟩:=boxes1 w1 202 #[.int .i64 (arityI t.kind),.func (.func 202) #[] #[]]
   have hv3:=hv2.up hb2
   have hb2':=hb1'.trans (hb2.mono hb1'.size)
   obtain ⟨c0,c1,c2,c3⟩:=p1.c4
   clear hs2 hv2 p0 hv1
   by_cases hl:(t.args.length:Int)=arityI t.kind
   ·have i3:((t.args.length:Int) == arityI t.kind)=true:=by rw [beq_iff_eq];exact hl
    have hr:=Lib.hid (show (decide ((t.args.length:Int)=arityI t.kind)&&fitB t.kind t.num t.name)=fitB t.kind t.num t.name by rw [decide_eq_true hl,Bool.true_and])
    have HT:=Lib.hid (HT1.out _ _ hv3)
    clear hl hv3
    go_wp2_with fail
    refine HT.out.mono ?_
    rintro e w3 ⟨rfl,hb3⟩
    go_wp2
    go_ret
    exact ⟨by rw [hr.out];rfl,hb2'.trans (hb3.mono hb2'.size)⟩
   ·have i3:((t.args.length:Int) == arityI t.kind)=false:=by rw [beq_eq_false_iff_ne];exact hl
    have hr:=Lib.hid (show (decide ((t.args.length:Int)=arityI t.kind)&&fitB t.kind t.num t.name)=false by rw [decide_eq_false hl,Bool.false_and])
    clear hl hv3
    go_wp2
    go_ret
    exact ⟨by rw [hr.out];rfl,hb2'⟩
 ·have HF:=Lib.hid (fun W=>opticForm_no t.kind (by omega) W)
  rw [show decide ((t.args.length:Int)=arityI t.kind)=false from decide_eq_false (by unfold arityI;rw [if_neg (by omega),if_neg (by omega),if_neg (by omega)];omega),Bool.false_and]
  clear hk
  go_enter Tryz.func150,Tryz.ntmps150
  go_wp2_with fail
  generalize w.alloc (.cells #[.int .i64 t.kind,.string t.name,.int .i64 t.num,.slice A t.args.length ac] 30)=w0 at *
  refine (HF.out _).mono ?_
  rintro e w1 ⟨rfl,hb1⟩
  have hb1':=hb0.trans (hb1.mono hb0.size)
  go_wp2
  go_ret
  exact ⟨rfl,hb1'.alloc hb1'.size _⟩
theorem depthOts_le (m:Nat):∀ (ts:List Ot),(∀ i,(h:i<ts.length)→depthOt ts[i]≤m)→depthOts ts≤m
 | [],_=>by rw [depthOts];omega
 | t::r,h=>by
  rw [depthOts]
  have h0:depthOt t≤m:=h 0 (by simp)
  have:=depthOts_le m r fun i hi=>h (i+1) (by simpa using hi)
  omega
theorem depthOts_at:∀ (ts:List Ot) (i:Nat) (h:i<ts.length),depthOt ts[i]≤depthOts ts
 | t::r,0,_=>by
  rw [depthOts]
  simp only [List.getElem_cons_zero]
  omega
 | t::r,i+1,h=>by
  rw [depthOts]
  have:=depthOts_at r i (by simpa using h)
  simp only [List.getElem_cons_succ]
  omega
def deepB (t:Ot) (d:Int):Bool:=decide ((depthOt t:Int)≤d)&&formOt t
def DeepOne (t:Ot):Prop:=∀ (d:Int) (v:Value) (w:World),0≤d→d≤10→OtAt w w.heap.size v t→Calls Tryz.prog 108 #[v,.int .i64 d] w (BoolIs (deepB t d) w)
set_option maxHeartbeats 4000000 in
theorem oHasForms_of (t:Ot) (hall:∀ i,(h:i<t.args.length)→DeepOne t.args[i]):DeepOne t:=by
 intro d v w hd0 hd1 hv
 have hv0:=hv
 have hde:=depthOt_eq t
 have hfe:=formOt_eq t
 have HN0:=fun W h=>hasForm_any t v W h
 obtain ⟨A,ac,rfl,_,ha⟩:=hv.open
 have hm:=ha.1
 unfold maxLen at hm
 obtain ⟨hb0,p0,hs0⟩:=boxes1 w 30 #[.int .i64 t.kind,.string t.name,.int .i64 t.num,.slice A t.args.length ac]
 have hv1:=hv0.up hb0
 have ha0:=ha.up hb0
 have hpl:=p0.lt
 have HALL:=Lib.hid hall
 have HDE:=Lib.hid hde
 have HFE:=Lib.hid hfe
 clear hv hv0 hs0 hall hde hfe ha
 by_cases hz:d=0
 ·subst hz
  have hr:=Lib.hid (show deepB t 0=false by unfold deepB;rw [decide_eq_false (by have:=HDE.out;omega),Bool.false_and])
  clear hd0 hd1
  go_enter Tryz.func108,Tryz.ntmps108
  go_wp2
  go_ret
  exact ⟨by rw [hr.out];rfl,hb0⟩
 ·have i0:(d == 0)=false:=by rw [beq_eq_false_iff_ne];exact hz
  cases hn:nodeOB t.kind t.num t.name t.args.length
  ·rw [hn] at HN0
   have HN:=Lib.hid HN0
   have hr:=Lib.hid (show deepB t d=false by unfold deepB;rw [HFE.out,hn,Bool.and_false,Bool.and_false])
   clear hn HN0
   go_enter Tryz.func108,Tryz.ntmps108
   go_wp2_with fail
   refine (HN.out _ hv1).mono ?_
   rintro e w1 ⟨rfl,hb1⟩
   go_wp2
   go_ret
   exact ⟨by rw [hr.out];rfl,hb0.trans (hb1.mono hb0.size)⟩
  ·rw [hn] at HN0
   have HN:=Lib.hid HN0
   have hfo:=Lib.hid (show formOt t=formOts t.args by rw [HFE.out,hn,Bool.and_true])
   clear hn HN0
   go_enter Tryz.func108,Tryz.ntmps108
   go_wp2_with fail
   generalize w.alloc (.cells #[.int .i64 t.kind,.string t.name,.int .i64 t.num,.slice A t.args.length ac] 30)=w0 at *
   refine (HN.out _ hv1).mono ?_
   rintro e w1 ⟨rfl,hb1⟩
   have p1:=p0.below hb1 hpl
   have ha1:=ha0.up hb1
   have hb1':=hb0.trans (hb1.mono hb0.size)
   have hpl1:=p1.lt
   have c3:w1.cell? ⟨w.heap.size,3,none⟩=some (.slice A t.args.length ac):=p1.cell 3
   clear p0 ha0 hv1
   go_wp2
   go_loopw [17] (fun i wr=>∃ k:Nat,k≤t.args.length∧i=.int .i64 k∧(∀ j,(hj:j<t.args.length)→j<k→deepB t.args[j] (d - 1)=true)∧Below w1.heap.size w1 wr) (fun i _=>t.args.length - (intOf i).toNat)
   case atStart=>exact ⟨0,Nat.zero_le _,rfl,fun j _ h=>absurd h (by omega),Below.refl _ _⟩
   case round=>
    obtain ⟨k,hk,rfl,hall,hb⟩:=hrel
    have HA:=Lib.hid hall
    clear hall
    by_cases hlt:k<t.args.length
    ·obtain ⟨b,off,A1,ac1,rfl,hbl,q0,q1,q2,q3,ht⟩:=(ha1.below hb).elem k hlt
     have hbx:Below wr.heap.size wr (wr.alloc (.cells #[.int .i64 t.args[k].kind,.string t.args[k].name,.int .i64 t.args[k].num,.slice A1 t.args[k].args.length ac1] 30)):=(Below.refl _ _).alloc (Nat.le_refl _) _
     have hbx':=hb.trans (hbx.mono hb.size)
     have HT:=HALL.out k hlt (d - 1) _ _ (by omega) (by omega) ((ht.more hb.size).up hbx)
     cases hfk:deepB t.args[k] (d - 1)
     ·rw [hfk] at HT
      have HT':=Lib.hid HT
      have hr:=Lib.hid (show deepB t d=false by
       unfold deepB at hfk ⊢
       rw [hfo.out]
       by_cases h2:(depthOt t:Int)≤d
       ·have h3:=depthOts_at t.args k hlt
        have h4:=HDE.out
        rw [decide_eq_true (by omega),Bool.true_and] at hfk
        rw [formOts_no t.args k hlt hfk,Bool.and_false]
       ·rw [decide_eq_false h2,Bool.false_and])
      clear ht HT hfk
      go_wp2_with fail
      refine HT'.out.mono ?_
      rintro e w2 ⟨rfl,hb2⟩
      go_wp2
      go_ret
      exact ⟨by rw [hr.out];rfl,hb1'.trans ((hbx'.trans (hb2.mono hbx'.size)).mono hb1'.size)⟩
     ·rw [hfk] at HT
      have HT':=Lib.hid HT
      have HK:=Lib.hid hfk
      clear ht HT hfk
      go_wp2_with fail
      refine HT'.out.mono ?_
      rintro e w2 ⟨rfl,hb2⟩
      go_wp2
      go_roundw
      case rel=>
       refine ⟨k+1,by omega,by go_num,fun j hj h=>?_,hbx'.trans (hb2.mono hbx'.size)⟩
       by_cases e:j=k
       ·subst e
        exact HK.out
       ·exact HA.out j hj (by omega)
      case measure=>simp [intOf];omega
    ·have hr:=Lib.hid (show deepB t d=true by
      have h1:∀ i,(hi:i<t.args.length)→(depthOt t.args[i]:Int)≤d - 1∧formOt t.args[i]=true:=fun i hi=>by
       have:=HA.out i hi (by omega)
       unfold deepB at this
       rw [Bool.and_eq_true,decide_eq_true_eq] at this
       exact this
      have h2:=depthOts_le (d - 1).toNat t.args fun i hi=>by have:=(h1 i hi).1;omega
      have h3:=HDE.out
      unfold deepB
      rw [hfo.out,formOts_all t.args fun i hi=>(h1 i hi).2,decide_eq_true (by omega),Bool.true_and])
     go_wp2
     go_ret
     exact ⟨by rw [hr.out];rfl,hb1'.trans (hb.mono hb1'.size)⟩
theorem oHasForms_any (t:Ot):DeepOne t:=by
 induction t using Ot.ind with
 | h k n nm ts ih=>exact oHasForms_of (.mk k n nm ts) ih
set_option maxHeartbeats 1000000 in
theorem implIsOptic_any (t:Ot) (v:Value) (w:World) (hv:OwnO w v t) (hsz:sizeOt t≤2000000):Calls Tryz.prog 59 #[v] w (BoolIs (opticB t) w):=by
 have HF0:=fun W h=>oHasForms_any t 10 v W (by omega) (by omega) h
 have HS:=Lib.hid (fun W h=>O.implSizeO_any t v W h hsz)
 obtain ⟨A,ac,hvv,_⟩:=hv.open
 subst hvv
 obtain ⟨hb0,p0,hs0⟩:=boxes1 w 30 #[.int .i64 t.kind,.string t.name,.int .i64 t.num,.slice A t.args.length ac]
 have hv1:=hv.up hb0
 have hpl:=p0.lt
 clear hv hs0
 cases hd:deepB t 10
 ·rw [hd] at HF0
  have HF:=Lib.hid HF0
  have hr:=Lib.hid (show opticB t=false by
   unfold opticB
   unfold deepB at hd
   by_cases h10:depthOt t≤10
   ·rw [decide_eq_true (by omega),Bool.true_and] at hd
    rw [hd,Bool.and_false]
   ·rw [decide_eq_false h10,Bool.and_false,Bool.false_and])
  clear hd HF0
  go_enter Tryz.func59,Tryz.ntmps59
  go_wp2_with fail
  refine (HF.out _ hv1.here).mono ?_
  rintro e w1 ⟨rfl,hb1⟩
  go_wp2
  go_ret
  exact ⟨by rw [hr.out];rfl,hb0.trans (hb1.mono hb0.size)⟩
 ·rw [hd] at HF0
  have HF:=Lib.hid HF0
  have hr0:=Lib.hid (show opticB t=decide (sizeOt t≤20) by
   unfold opticB
   unfold deepB at hd
   rw [Bool.and_eq_true,decide_eq_true_eq] at hd
   rw [hd.2,decide_eq_true (show depthOt t≤10 by have:=hd.1;omega),Bool.and_true,Bool.and_true])
  clear hd HF0
  go_enter Tryz.func59,Tryz.ntmps59
  go_wp2_with fail
  generalize w.alloc (.cells #[.int .i64 t.kind,.string t.name,.int .i64 t.num,.slice A t.args.length ac] 30)=w0 at *
  refine (HF.out _ hv1.here).mono ?_
  rintro e w1 ⟨rfl,hb1⟩
  have p1:=p0.below hb1 hpl
  have hv2:=hv1.up hb1
  have hb1':=hb0.trans (hb1.mono hb0.size)
  obtain ⟨c0,c1,c2,c3⟩:=p1.c4
  go_wp2_with fail
  refine (HS.out _ hv2).mono ?_
  rintro e w2 ⟨rfl,hb2⟩
  by_cases h20:sizeOt t≤20
  ·have i1:decide ((sizeOt t:Int)≤20)=true:=by simp;omega
   have hr:=Lib.hid (show opticB t=true by rw [hr0.out,decide_eq_true h20])
   go_wp2
   go_ret
   exact ⟨by rw [hr.out];rfl,hb1'.trans (hb2.mono hb1'.size)⟩
  ·have i1:decide ((sizeOt t:Int)≤20)=false:=by simp;omega
   have hr:=Lib.hid (show opticB t=false by rw [hr0.out,decide_eq_false h20])
   go_wp2
   go_ret
   exact ⟨by rw [hr.out];rfl,hb1'.trans (hb2.mono hb1'.size)⟩
end Go.Proofs.YtfnblkcmcfofoaaGreatDoor
